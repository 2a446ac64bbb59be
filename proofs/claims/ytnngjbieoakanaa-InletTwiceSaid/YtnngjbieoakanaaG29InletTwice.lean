/- Package inlet: Fin, Take, New. -/
import Derived.Test.YtnngjbieoakanaaG28InletTwice

namespace Go.Proofs.Ytnngjbieoakanaa
open Go.RowKit
set_option linter.unusedVariables false
set_option linter.unusedSimpArgs false
set_option maxRecDepth 20000 in
theorem in_fin (B x g p s : Nat) (st : Ist) (en : Nat) (w : World) (h : IN w B x g p s st) (he : en < pmax) :
    Calls Try.prog 18 #[.pointer (some ⟨x, 0, none⟩), .int .u64 (en : Int)] w fun e w' => e = .returned (.bool (st.fin en).2) ∧ IN w' B x g p s (st.fin en).1 ∧ IK B x g p s w w' := by
  have c3 := h.c3
  have c4 := h.c4
  have HH := Sh.mk h
  have HT := Sh.mk (in_top B x g p s st w h)
  have HC := Sh.mk (show st.fin en = if st.kn then (st, decide (en = st.en)) else if en < st.top then (st, false) else ({ st with en := en, kn := true }, true) from rfl)
  have HO := Sh.mk (show st.kn = false → st.top ≤ en → ({ st with base := st.base, en := en, kn := true } : Ist).ok from fun _ _ => ⟨h.ok.bl, h.ok.s0, h.ok.s6, h.ok.ts, h.ok.ll, h.ok.rs, h.ok.pb, h.ok.pl⟩)
  have HP := Sh.mk he
  generalize st.fin en = R at HC ⊢
  clear h he
  obtain ⟨kn, hkn⟩ : ∃ kn, kn = st.kn := ⟨_, rfl⟩
  rw [← hkn] at c4 HC HO
  have HKN := Sh.mk hkn
  clear hkn
  cases kn
  · simp only [Bool.false_eq_true, if_false] at HC
    generalize st.top = top at HT HC HO
    by_cases h1 : en < top
    · have h1' : (en : Int) < (top : Int) := by omega
      rw [if_pos h1] at HC
      clear HO
      go_enter Try.func18, Try.ntmps18
      go_wp2_with fail
      refine HT.out.mono ?_
      rintro e w1 ⟨rfl, hb⟩
      have HB := Sh.mk hb
      clear hb
      go_wp2_with fail
      go_ret
      rw [HC.out]
      exact ⟨rfl, HH.out.into HB.out, IK.of HB.out⟩
    · have h1' : ¬ (en : Int) < (top : Int) := by omega
      rw [if_neg h1] at HC
      have HOK := Sh.mk (HO.out rfl (by omega))
      clear HO
      go_enter Try.func18, Try.ntmps18
      go_wp2_with fail
      refine HT.out.mono ?_
      rintro e w1 ⟨rfl, hb⟩
      have HB := Sh.mk hb
      have H1 := Sh.mk (HH.out.into hb)
      clear hb
      have f3 := H1.out.blk.frozen 3
      have c3' : w1.cell? ⟨x, 3, none⟩ = some (.int .u64 (st.en : Int)) := H1.out.c3
      have BS := H1.out.blk.set 3 (.int .u64 (en : Int))
      have f4 := BS.frozen 4
      have c4' : (w1.setCell ⟨x, 3, none⟩ (.int .u64 (en : Int))).cell? ⟨x, 4, none⟩ = some (.bool st.kn) := by rw [BS.cell]; rfl
      clear BS
      go_wp2_with fail
      go_ret
      rw [HC.out]
      have hs : Solo x w1 ((w1.setCell ⟨x, 3, none⟩ (.int .u64 (en : Int))).setCell ⟨x, 4, none⟩ (.bool true)) := (Solo.refl.setCell 3 _).setCell 4 _
      refine ⟨rfl, H1.out.own (b := st.base) (e := en) (k := true) hs ?_ HOK.out HP.out, (IK.of HB.out).trans (IK.ofX hs)⟩
      exact (H1.out.blk.set 3 _).set 4 _
  · simp only [if_true] at HC
    clear HO HT
    by_cases h1 : en = st.en
    · have h1' : ((en : Int) == (st.en : Int)) = true := by simp; omega
      have h2 : decide (en = st.en) = true := by simpa using h1
      rw [h2] at HC
      clear h1 h2
      generalize st.en = e2 at c3 h1'
      go_enter Try.func18, Try.ntmps18
      go_wp2_with fail
      go_ret
      rw [HC.out]
      exact ⟨rfl, HH.out, IK.refl⟩
    · have h1' : ((en : Int) == (st.en : Int)) = false := by simp; omega
      have h2 : decide (en = st.en) = false := by simpa using h1
      rw [h2] at HC
      clear h1 h2
      generalize st.en = e2 at c3 h1'
      go_enter Try.func18, Try.ntmps18
      go_wp2_with fail
      go_ret
      rw [HC.out]
      exact ⟨rfl, HH.out, IK.refl⟩
theorem read_duo (g p size there : Nat) (many : Int) (L : List Nat) (w : World) (h : Ring w g p size there L) (hmany : many < 9223372036854775808) (k : Nat) (hk : k = min many.toNat there) :
    Calls Try.prog 31 #[.pointer (some ⟨g, 0, none⟩), .int .i64 many] w fun e w' => ∃ v, e = .returned v ∧ Nats w' 5 .u8 w.heap.size v (L.take k) ∧ (∃ w1, Below w.heap.size w w1 ∧ Duo g p w1 w') ∧ Ring w' g p size (there - k) (L.drop k ++ List.replicate k 0) := by
  have hp := peek_any g p size there 0 many L w h (by omega) hmany
  have hl := h.len
  have hts := h.ts
  have hsz := h.sz
  have e1 : ((L.take there).drop 0).take many.toNat = L.take k := by rw [List.drop_zero, List.take_take, hk]
  rw [e1] at hp
  have hkl : (L.take k).length = k := by simp; omega
  have HH := Lib.hid h
  have HK := Lib.hid hkl
  have hbl := h.bl
  have hkt : k ≤ there := by omega
  clear h hkl e1 hk hmany
  go_enter Try.func31, Try.ntmps31
  go_wp2_with fail
  refine hp.mono ?_
  rintro e w1 ⟨v, rfl, hn, hb1⟩
  obtain ⟨A, n, c, rfl, hc, hln, hrd⟩ := hn.out
  obtain rfl : n = k := by rw [← hln.out, HK.out]
  have HN := Lib.hid hn
  have HH1 := Lib.hid (HH.out.below hb1 hbl.1 hbl.2)
  clear hn hln hrd hp
  go_wp2_with fail
  refine (skip_any g p size there (n : Int) L w1 HH1.out n (by omega) (by omega)).mono ?_
  rintro e w2 ⟨rfl, hd, hr⟩
  have HR := Lib.hid hr
  clear hr
  go_wp2_with fail
  go_ret
  refine ⟨_, rfl, HN.out.kept fun j hj => ?_, ⟨w1, hb1, hd⟩, HR.out⟩
  have := (HN.out.lt j hj).1
  exact hd.2.2 j (by omega) (by omega)
/-- How many Take takes. -/
def Ist.many (s : Ist) (n : Int) : Nat := min n.toNat s.there
/-- Take's error. -/
def Ist.terr (s : Ist) (n : Int) : Nat := if n < 1 then 0 else if 0 < s.there then 0 else if s.ended then 211 else 210
theorem Ist.take0 (s : Ist) : s.take 0 = s := by unfold Ist.take; simp
set_option maxRecDepth 20000 in
theorem in_take (B x g p s : Nat) (st : Ist) (n : Int) (w : World) (h : IN w B x g p s st) (hn : n < 9223372036854775808) (hl : st.base + st.size ≤ iLim) :
    Calls Try.prog 20 #[.pointer (some ⟨x, 0, none⟩), .int .i64 n] w fun e w' => (∃ v, e = .returned (.tuple #[v, .int .i64 (st.terr n : Int)]) ∧ Nats w' 5 .u8 w.heap.size v (st.L.take (st.many n))) ∧ IN w' B x g p s (st.take (st.many n)) ∧ IK B x g p s w w' := by
  have c0 := h.c0
  have c1 := h.c1
  have HH := Sh.mk h
  have HLM := Sh.mk hl
  have hts := h.ok.ts
  have hs6 := h.ok.s6
  unfold iLim at hl
  by_cases h0 : n < 1
  · have e1 : st.terr n = 0 := by unfold Ist.terr; rw [if_pos h0]
    have e2 : st.many n = 0 := by unfold Ist.many; omega
    rw [e1, e2]
    clear e1 e2 h hn hl hts hs6
    go_enter Try.func20, Try.ntmps20
    go_wp2_with fail
    go_ret2
    exact ⟨⟨_, rfl, Nats.nil _ _ _ _⟩, by rw [Ist.take0]; exact HH.out, IK.refl⟩
  have h0' : (1 : Int) ≤ n := by omega
  by_cases h1 : 0 < st.there
  · have e1 : st.terr n = 0 := by unfold Ist.terr; rw [if_neg h0, if_pos h1]
    rw [e1]
    obtain ⟨k, hk⟩ : ∃ k, k = st.many n := ⟨_, rfl⟩
    have HR := Sh.mk (read_duo g p st.size st.there n st.L w h.rg hn k hk)
    have HLEN := Sh.mk (in_len B x g p s st w h)
    rw [← hk]
    have hk2 : k ≤ st.there := by rw [hk]; unfold Ist.many; omega
    have HK := Sh.mk hk2
    have h1' : (0 : Int) < (st.there : Int) := by omega
    have hw1 : IntKind.u64.wrap (k : Int) = (k : Nat) := by rw [IntKind.wrap_u64]; omega
    obtain ⟨b2, hb2⟩ : ∃ b2, b2 = st.base + k := ⟨_, rfl⟩
    have hw2 : IntKind.u64.wrap ((st.base : Int) + (k : Int)) = (b2 : Nat) := by rw [IntKind.wrap_u64]; omega
    have HOK := Sh.mk (h.ok.take hk2 (by unfold iLim; omega))
    have HB2 := Sh.mk hb2
    have HT3 := Sh.mk (show ({ st with there := st.there - k, L := st.L.drop k ++ List.replicate k 0 } : Ist).ok from ⟨h.ok.bl, h.ok.s0, h.ok.s6, by show st.there - k ≤ st.size; omega, by show (st.L.drop k ++ List.replicate k 0).length = st.size; have := h.ok.ll; simp; omega, h.ok.rs, h.ok.pb, h.ok.pl⟩)
    have hlt : (st.L.take k).length = k := by rw [List.length_take, h.ok.ll]; omega
    have HLT := Sh.mk hlt
    clear e1 hb2 h hn hl hts hs6 h0 h1 hk hk2 hlt
    go_enter Try.func20, Try.ntmps20
    go_wp2_with fail
    refine HLEN.out.mono ?_
    rintro e w1 ⟨rfl, rfl⟩
    go_wp2_with fail
    refine HR.out.mono ?_
    rintro e w2 ⟨v, rfl, hv, hb, hr⟩
    obtain ⟨A, n1, c, rfl, hc, hln, hrd⟩ := hv.out
    obtain rfl : n1 = k := by rw [← hln.out]; exact HLT.out
    obtain ⟨w3, hb3, hd3⟩ := hb
    have H3 := Sh.mk (IN.ring (HH.out.into hb3) hd3 hr (HT3.out))
    have K3 := Sh.mk ((IK.of hb3).trans (IK.ofR hd3) : IK B x g p s w1 w2)
    have HV := Sh.mk hv
    clear hb3 hd3 hr hln hrd hv w3
    have c1' : w2.cell? ⟨x, 1, none⟩ = some (.int .u64 (st.base : Int)) := H3.out.c1
    have f1 := H3.out.blk.frozen 1
    go_wp2_with fail
    go_ret2
    have hs : Solo x w2 (w2.setCell ⟨x, 1, none⟩ (.int .u64 (b2 : Int))) := Solo.refl.setCell 1 _
    have hx := HH.out.lt.1
    refine ⟨⟨_, rfl, HV.out.kept fun i hi => hs.2.2 i (by have := (HV.out.lt i hi).1; omega)⟩, ?_, K3.out.trans (IK.ofX hs)⟩
    have hfin := H3.out.own (b := b2) (e := st.en) (k := st.kn) hs (H3.out.blk.set 1 _) (by rw [HB2.out]; exact HOK.out) HH.out.en
    have e9 : st.take n1 = { st with base := b2, there := st.there - n1, L := st.L.drop n1 ++ List.replicate n1 0 } := by rw [HB2.out]; rfl
    rw [e9]
    exact hfin
  · have h1' : ¬ (0 : Int) < (st.there : Int) := by omega
    have e2 : st.many n = 0 := by unfold Ist.many; omega
    have HLEN := Sh.mk (in_len B x g p s st w h)
    have HE := Sh.mk (in_ended B x g p s st w h)
    have e1 : st.terr n = if st.ended then 211 else 210 := by unfold Ist.terr; rw [if_neg h0, if_neg h1]
    rw [e1, e2, Ist.take0]
    clear e1 e2 h hn hl hts hs6 h0 h1
    generalize st.ended = d at HE ⊢
    cases d
    · go_enter Try.func20, Try.ntmps20
      go_wp2_with fail
      refine HLEN.out.mono ?_
      rintro e w1 ⟨rfl, rfl⟩
      go_wp2_with fail
      refine HE.out.mono ?_
      rintro e w2 ⟨rfl, q, rfl⟩
      go_wp2_with fail
      go_ret2
      exact ⟨⟨_, rfl, Nats.nil _ _ _ _⟩, HH.out.drewN q, IK.of (below_drewN (Below.refl _ _) q)⟩
    · go_enter Try.func20, Try.ntmps20
      go_wp2_with fail
      refine HLEN.out.mono ?_
      rintro e w1 ⟨rfl, rfl⟩
      go_wp2_with fail
      refine HE.out.mono ?_
      rintro e w2 ⟨rfl, q, rfl⟩
      go_wp2_with fail
      go_ret2
      exact ⟨⟨_, rfl, Nats.nil _ _ _ _⟩, HH.out.drewN q, IK.of (below_drewN (Below.refl _ _) q)⟩
end Go.Proofs.Ytnngjbieoakanaa

/- Package inlet: New, Put. -/
namespace Go.Proofs.Ytnngjbieoakanaa
open Go.RowKit
set_option linter.unusedVariables false
set_option linter.unusedSimpArgs false
/-- A new inlet. -/
def ist0 (size most : Nat) : Ist := ⟨0, size, 0, most, 0, false, [], List.replicate size 0⟩
theorem ist0_ok {size most : Nat} (h1 : 1 ≤ size) (h2 : size ≤ 65536) : (ist0 size most).ok :=
  ⟨Nat.zero_le _, h1, h2, Nat.zero_le _, by simp [ist0], trivial, by simp [ist0], Nat.zero_le _⟩
/-- What New gives. -/
def InR (size most : Nat) (w : World) (e : Ending) (w' : World) : Prop := ∃ x g p s, e = .returned (.tuple #[.pointer (some ⟨x, 0, none⟩), .int .i64 0]) ∧ IN w' w.heap.size x g p s (ist0 size most) ∧ Below w.heap.size w w'
set_option maxRecDepth 20000 in
theorem in_new (size : Nat) (m : Int) (w : World) (h1 : 1 ≤ size) (h2 : size ≤ 65536) (hm : -9223372036854775808 ≤ m ∧ m < 9223372036854775808) :
    Calls Try.prog 5 #[.int .i64 (size : Int), .int .i64 m] w fun e w' => InR size (mostN m) w e w' := by
  have NR := Lib.hid (new_any size w h1 h2)
  have HM := Sh.mk fun w => snew_any m w hm
  have H1 := Sh.mk (And.intro h1 h2)
  clear h1 h2 hm
  go_enter Try.func5, Try.ntmps5
  go_wp2_with fail
  refine NR.out.mono ?_
  rintro e w1 ⟨g, p, rfl, hg, hp, hb, hr⟩
  have HR := Sh.mk hr
  have HB := Sh.mk hb
  have HG := Sh.mk (And.intro hg hp)
  have hbl := Sh.mk hr.bl
  clear hr hb hg hp
  go_wp2_with fail
  refine (HM.out _).mono ?_
  rintro e w2 ⟨rfl, hS, hb2⟩
  have HS := Sh.mk hS
  have HB2 := Sh.mk hb2
  have hlt := hS.lt
  generalize hsp : w1.heap.size = s at HS hlt ⊢
  have HSP := Sh.mk hsp
  clear hS hb2 hsp
  go_wp2_with fail
  go_ret2
  have hal : Below w2.heap.size w2 (w2.alloc (.cells (inC g s (ist0 size (mostN m))) 35)) := (Below.refl _ _).alloc (Nat.le_refl _) _
  have hb12 : Below w1.heap.size w1 (w2.alloc (.cells (inC g s (ist0 size (mostN m))) 35)) := HB2.out.alloc (by exact HB2.out.size) _
  have hws := HB.out.size
  have hg2 := HB2.out.size
  refine ⟨w2.heap.size, g, p, s, rfl, ⟨Blk.new _ _ _, HR.out.below hb12 hbl.out.1 hbl.out.2, ⟨.slice none 0 0, ?_⟩, ist0_ok H1.out.1 H1.out.2, Nat.le_trans hws hg2, HG.out.1, HG.out.2, by show (0 : Nat) < 18446744073709551616; decide⟩, HB.out.trans (hb12.mono hws)⟩
  exact ⟨HS.out.blk.below hal HS.out.lt, World.ownsRow_nil _ _ _ _, trivial, by simp [ist0], Nat.zero_le _, HS.out.ms, by rw [← HSP.out]; exact hws⟩
set_option maxRecDepth 20000 in
theorem in_new_none (size m : Int) (w : World) (h : size < 1 ∨ 65536 < size) : Calls Try.prog 5 #[.int .i64 size, .int .i64 m] w fun e w' => e = .returned (.tuple #[.pointer none, .int .i64 50]) ∧ Below w.heap.size w w' := by
  have NR := Lib.hid (ring_new_none size w h)
  clear h
  go_enter Try.func5, Try.ntmps5
  go_wp2_with fail
  refine NR.out.mono ?_
  rintro e w1 ⟨rfl, hb⟩
  go_wp2_with fail
  go_ret2
  exact ⟨rfl, hb⟩
end Go.Proofs.Ytnngjbieoakanaa
