/- Layer 10: the only option of data, if its sum is the right one. -/
import Derived.Test.YtbiimgfocgbdaaaG25MacOpens
import Derived.Test.YtbiimgfocgbdaaaG4MacOpens
import Derived.Test.YtbiimgfocgbdaaaG32MacOpens
import Derived.Test.YtbiimgfocgbdaaaG34MacOpens
import Derived.Test.YtbiimgfocgbdaaaG39MacOpens
import Derived.Test.YtbiimgfocgbdaaaG15MacOpens
import Derived.Test.YtbiimgfocgbdaaaG30MacOpens

namespace Go.Proofs.Ytbiimgfocgbdaaa
open Go.RowKit
set_option linter.unusedVariables false
set_option linter.unusedSimpArgs false
theorem oneS_true {l : List Opn} {k kd : Nat} {b : List Nat} (h : oneS l k = (kd, b, true)) : kd = k ∧ (kd, b) ∈ l := by
  unfold oneS at h
  generalize hf : l.filter (fun p => p.1 == k) = f at h
  match f, hf, h with
  | [], hf, h => cases h
  | [p], hf, h =>
    injection h with h1 h2
    injection h2 with h2 _
    have hm : p ∈ l.filter (fun p => p.1 == k) := by rw [hf]; simp
    have := List.mem_filter.1 hm
    subst h1 h2
    exact ⟨by simpa using this.2, this.1⟩
  | p :: q :: r, hf, h => cases h
/-- What the only option of data of a segment says, if its sum is right. -/
def OpenY (k0 k1 : Nat) (g : Sg) (f p : Bool) (sq ak wn t : Nat) : Prop := ∃ lb, oneS g.opts 3 = (3, lb, true) ∧ DataIs 3 lb f p sq ak wn t ∧ t = tagN k0 k1 g 3 lb
def OpenR (k0 k1 : Nat) (g : Sg) (f p : Bool) (sq ak wn t : Nat) (ok : Bool) : Prop :=
  (ok = true ∧ OpenY k0 k1 g f p sq ak wn t) ∨ (ok = false ∧ (f = false ∧ p = false ∧ sq = 0 ∧ ak = 0 ∧ wn = 0 ∧ t = 0) ∧ ∀ (f p : Bool) (sq ak wn t : Nat), ¬ OpenY k0 k1 g f p sq ak wn t)
theorem OpenY.one {k0 k1 : Nat} {g : Sg} {f p : Bool} {sq ak wn t : Nat} {f' p' : Bool} {sq' ak' wn' t' : Nat} (h : OpenY k0 k1 g f p sq ak wn t) (h' : OpenY k0 k1 g f' p' sq' ak' wn' t') : f = f' ∧ p = p' ∧ sq = sq' ∧ ak = ak' ∧ wn = wn' ∧ t = t' := by
  obtain ⟨lb, e1, h1, _⟩ := h
  obtain ⟨lb', e2, h2, _⟩ := h'
  rw [e1] at e2
  injection e2 with _ e2
  injection e2 with e2 _
  subst e2
  exact h1.one h2
theorem OpenR.one {k0 k1 : Nat} {g : Sg} {f p : Bool} {sq ak wn t : Nat} {ok : Bool} {f' p' : Bool} {sq' ak' wn' t' : Nat} {ok' : Bool} (h : OpenR k0 k1 g f p sq ak wn t ok) (h' : OpenR k0 k1 g f' p' sq' ak' wn' t' ok') : f = f' ∧ p = p' ∧ sq = sq' ∧ ak = ak' ∧ wn = wn' ∧ t = t' ∧ ok = ok' := by
  rcases h with ⟨rfl, h⟩ | ⟨rfl, h0, h⟩ <;> rcases h' with ⟨rfl, g⟩ | ⟨rfl, g0, g⟩
  · obtain ⟨e0, e1, e2, e3, e4, e5⟩ := h.one g
    exact ⟨e0, e1, e2, e3, e4, e5, rfl⟩
  · exact absurd h (g _ _ _ _ _ _)
  · exact absurd g (h _ _ _ _ _ _)
  · obtain ⟨rfl, rfl, rfl, rfl, rfl, rfl⟩ := h0
    obtain ⟨rfl, rfl, rfl, rfl, rfl, rfl⟩ := g0
    exact ⟨rfl, rfl, rfl, rfl, rfl, rfl, rfl⟩
theorem OpenR.no {k0 k1 : Nat} {g : Sg} (h : ∀ (f p : Bool) (sq ak wn t : Nat), ¬ OpenY k0 k1 g f p sq ak wn t) : OpenR k0 k1 g false false 0 0 0 0 false := .inr ⟨rfl, ⟨rfl, rfl, rfl, rfl, rfl, rfl⟩, h⟩
set_option maxRecDepth 20000 in
set_option maxHeartbeats 4000000 in
theorem mopen_any (k0 k1 : Nat) (sv : Value) (g : Sg) (w : World) (h0 : k0 < 18446744073709551616) (h1 : k1 < 18446744073709551616) (hsv : SegV w sv g) (hg : g.bd) (hs : g.small) :
    Calls Try.prog 27 #[.agg #[.int .u64 (k0 : Nat), .int .u64 (k1 : Nat)], sv] w fun e w' => (∃ (f p : Bool) (sq ak wn t : Nat) (ok : Bool), e = .returned (.tuple #[.agg #[.bool f, .bool p, .int .u64 (sq : Int), .int .u64 (ak : Int), .int .u32 (wn : Int), .int .u64 (t : Int)], .bool ok]) ∧ OpenR k0 k1 g f p sq ak wn t ok) ∧ Below w.heap.size w w' := by
  have HS := Lib.hid hsv
  have HG := Lib.hid hg
  have HM := Lib.hid hs
  clear hg hs
  obtain ⟨A1, n1, c1, D, m, d, lo, rfl, hO, ho, hD, hmd, hdm⟩ := hsv
  clear hO ho hD hdm
  unfold segCs at *
  go_enter Try.func27, Try.ntmps27
  go_wp2_with fail
  have hk0 : Hid (Blk (w.alloc (.cells #[.int .u64 (k0 : Nat), .int .u64 (k1 : Nat)] 24)) (w.heap.size) 24 #[.int .u64 (k0 : Nat), .int .u64 (k1 : Nat)]) := Lib.hid ((Blk.new w 24 #[.int .u64 (k0 : Nat), .int .u64 (k1 : Nat)]))
  replace hk0 : Hid (Blk ((w.alloc (.cells #[.int .u64 (k0 : Nat), .int .u64 (k1 : Nat)] 24)).alloc (.cells #[.int .u16 (g.src : Int), .int .u16 (g.dst : Int), .int .u32 (g.seq : Int), .int .u32 (g.ack : Int), .int .u8 (g.flags : Int), .slice A1 n1 c1, .slice D m d] 30)) (w.heap.size) 24 #[.int .u64 (k0 : Nat), .int .u64 (k1 : Nat)]) := Lib.hid (hk0.out.alloc _)
  replace hk0 : Hid (Blk (((w.alloc (.cells #[.int .u64 (k0 : Nat), .int .u64 (k1 : Nat)] 24)).alloc (.cells #[.int .u16 (g.src : Int), .int .u16 (g.dst : Int), .int .u32 (g.seq : Int), .int .u32 (g.ack : Int), .int .u8 (g.flags : Int), .slice A1 n1 c1, .slice D m d] 30)).alloc (.cells #[.bool false, .bool false, .int .u64 0, .int .u64 0, .int .u32 0, .int .u64 0] 38)) (w.heap.size) 24 #[.int .u64 (k0 : Nat), .int .u64 (k1 : Nat)]) := Lib.hid (hk0.out.alloc _)
  have hk1 : Hid (Blk ((w.alloc (.cells #[.int .u64 (k0 : Nat), .int .u64 (k1 : Nat)] 24)).alloc (.cells #[.int .u16 (g.src : Int), .int .u16 (g.dst : Int), .int .u32 (g.seq : Int), .int .u32 (g.ack : Int), .int .u8 (g.flags : Int), .slice A1 n1 c1, .slice D m d] 30)) (w.heap.size + 1) 30 #[.int .u16 (g.src : Int), .int .u16 (g.dst : Int), .int .u32 (g.seq : Int), .int .u32 (g.ack : Int), .int .u8 (g.flags : Int), .slice A1 n1 c1, .slice D m d]) := Lib.hid ((Blk.new (w.alloc (.cells #[.int .u64 (k0 : Nat), .int .u64 (k1 : Nat)] 24)) 30 #[.int .u16 (g.src : Int), .int .u16 (g.dst : Int), .int .u32 (g.seq : Int), .int .u32 (g.ack : Int), .int .u8 (g.flags : Int), .slice A1 n1 c1, .slice D m d]) |> fun h => by simpa using h)
  replace hk1 : Hid (Blk (((w.alloc (.cells #[.int .u64 (k0 : Nat), .int .u64 (k1 : Nat)] 24)).alloc (.cells #[.int .u16 (g.src : Int), .int .u16 (g.dst : Int), .int .u32 (g.seq : Int), .int .u32 (g.ack : Int), .int .u8 (g.flags : Int), .slice A1 n1 c1, .slice D m d] 30)).alloc (.cells #[.bool false, .bool false, .int .u64 0, .int .u64 0, .int .u32 0, .int .u64 0] 38)) (w.heap.size + 1) 30 #[.int .u16 (g.src : Int), .int .u16 (g.dst : Int), .int .u32 (g.seq : Int), .int .u32 (g.ack : Int), .int .u8 (g.flags : Int), .slice A1 n1 c1, .slice D m d]) := Lib.hid (hk1.out.alloc _)
  have hk2 : Hid (Blk (((w.alloc (.cells #[.int .u64 (k0 : Nat), .int .u64 (k1 : Nat)] 24)).alloc (.cells #[.int .u16 (g.src : Int), .int .u16 (g.dst : Int), .int .u32 (g.seq : Int), .int .u32 (g.ack : Int), .int .u8 (g.flags : Int), .slice A1 n1 c1, .slice D m d] 30)).alloc (.cells #[.bool false, .bool false, .int .u64 0, .int .u64 0, .int .u32 0, .int .u64 0] 38)) (w.heap.size + 2) 38 #[.bool false, .bool false, .int .u64 0, .int .u64 0, .int .u32 0, .int .u64 0]) := Lib.hid ((Blk.new ((w.alloc (.cells #[.int .u64 (k0 : Nat), .int .u64 (k1 : Nat)] 24)).alloc (.cells #[.int .u16 (g.src : Int), .int .u16 (g.dst : Int), .int .u32 (g.seq : Int), .int .u32 (g.ack : Int), .int .u8 (g.flags : Int), .slice A1 n1 c1, .slice D m d] 30)) 38 #[.bool false, .bool false, .int .u64 0, .int .u64 0, .int .u32 0, .int .u64 0]) |> fun h => by simpa using h)
  have b1 : Hid (Below w.heap.size w (((w.alloc (.cells #[.int .u64 (k0 : Nat), .int .u64 (k1 : Nat)] 24)).alloc (.cells #[.int .u16 (g.src : Int), .int .u16 (g.dst : Int), .int .u32 (g.seq : Int), .int .u32 (g.ack : Int), .int .u8 (g.flags : Int), .slice A1 n1 c1, .slice D m d] 30)).alloc (.cells #[.bool false, .bool false, .int .u64 0, .int .u64 0, .int .u32 0, .int .u64 0] 38))) := Lib.hid ((((Below.refl w.heap.size w).alloc (Nat.le_refl _) (.cells #[.int .u64 (k0 : Nat), .int .u64 (k1 : Nat)] 24)).alloc (by simp <;> omega) (.cells #[.int .u16 (g.src : Int), .int .u16 (g.dst : Int), .int .u32 (g.seq : Int), .int .u32 (g.ack : Int), .int .u8 (g.flags : Int), .slice A1 n1 c1, .slice D m d] 30)).alloc (by simp <;> omega) (.cells #[.bool false, .bool false, .int .u64 0, .int .u64 0, .int .u32 0, .int .u64 0] 38))
  have hz : (((w.alloc (.cells #[.int .u64 (k0 : Nat), .int .u64 (k1 : Nat)] 24)).alloc (.cells #[.int .u16 (g.src : Int), .int .u16 (g.dst : Int), .int .u32 (g.seq : Int), .int .u32 (g.ack : Int), .int .u8 (g.flags : Int), .slice A1 n1 c1, .slice D m d] 30)).alloc (.cells #[.bool false, .bool false, .int .u64 0, .int .u64 0, .int .u32 0, .int .u64 0] 38)).heap.size = w.heap.size + 3 := by simp
  generalize (((w.alloc (.cells #[.int .u64 (k0 : Nat), .int .u64 (k1 : Nat)] 24)).alloc (.cells #[.int .u16 (g.src : Int), .int .u16 (g.dst : Int), .int .u32 (g.seq : Int), .int .u32 (g.ack : Int), .int .u8 (g.flags : Int), .slice A1 n1 c1, .slice D m d] 30)).alloc (.cells #[.bool false, .bool false, .int .u64 0, .int .u64 0, .int .u32 0, .int .u64 0] 38)) = w2 at hk0 hk1 hk2 b1 hz ⊢
  have HZ := Lib.hid hz
  clear hz
  replace HS := Lib.hid (HS.out.into b1.out)
  obtain ⟨T, hT⟩ : ∃ T, T = w.heap.size := ⟨_, rfl⟩
  rw [← hT] at hk0 hk1 hk2 ⊢
  have HT := Lib.hid hT
  clear hT HZ
  refine (one_any _ g 3 w2 HS.out HM.out).mono ?_
  rintro e w3 ⟨⟨kd3, A3, n3, c3, b3, is3, rfl, hc3, hr3, ho3⟩, hb3⟩
  have HO3 := Lib.hid ho3
  cases is3 with
  | false =>
    have hbA : Below w3.heap.size w3 (w3.alloc (.cells #[.int .u8 (kd3 : Int), .slice A3 n3 c3] 45)) := (Below.refl _ _).alloc (Nat.le_refl _) _
    have hb4 := hb3.trans (hbA.mono hb3.size)
    have K4 := Lib.hid (hk2.out.below hb4 hk2.out.lt)
    have B4 := Lib.hid (b1.out.trans (hb4.mono b1.out.size))
    have HNO := Lib.hid (OpenR.no (k0 := k0) (k1 := k1) (g := g) fun f p sq ak wn t h => by
      obtain ⟨lb, e1, _⟩ := h
      rw [HO3.out] at e1
      injection e1 with _ e1
      injection e1 with _ e1
      cases e1)
    clear hbA hb4 hb3 hk0 hk1 hk2 b1 HS hr3 ho3
    obtain ⟨t0, t1, t2, t3, t4, t5⟩ := ptc6 K4.out
    have f0 := K4.out.frozen 0
    have f1 := K4.out.frozen 1
    have f2 := K4.out.frozen 2
    have f3 := K4.out.frozen 3
    have f4 := K4.out.frozen 4
    have f5 := K4.out.frozen 5
    go_wp2_with fail
    have hkz := pt6 (.bool false) (.bool false) (.int .u64 0) (.int .u64 0) (.int .u32 0) (.int .u64 0) K4.out
    have hbz := ptb6 (.bool false) (.bool false) (.int .u64 0) (.int .u64 0) (.int .u32 0) (.int .u64 0) B4.out (show w.heap.size ≤ T + 2 by rw [← HT.out]; omega)
    unfold ptw6 at hkz hbz
    generalize ((((((w3.alloc (.cells #[.int .u8 (kd3 : Int), .slice A3 n3 c3] 45)).setCell ⟨T + 2, 0, none⟩ (.bool false)).setCell ⟨T + 2, 1, none⟩ (.bool false)).setCell ⟨T + 2, 2, none⟩ (.int .u64 0)).setCell ⟨T + 2, 3, none⟩ (.int .u64 0)).setCell ⟨T + 2, 4, none⟩ (.int .u32 0)).setCell ⟨T + 2, 5, none⟩ (.int .u64 0) = wz at *
    clear t0 t1 t2 t3 t4 t5 f0 f1 f2 f3 f4 f5
    obtain ⟨z0, z1, z2, z3, z4, z5⟩ := ptc6 hkz
    exact bodyPost_ret (v := .tuple #[.agg #[.bool false, .bool false, .int .u64 0, .int .u64 0, .int .u32 0, .int .u64 0], .bool false]) (by simp [results, Try.results27, go_sem, z0, z1, z2, z3, z4, z5]) rfl ⟨⟨_, _, _, _, _, _, _, rfl, HNO.out⟩, hbz⟩
  | true =>
    obtain ⟨hkd, hmem⟩ := oneS_true ho3
    subst hkd
    have hby := HG.out.bodies _ hmem
    have hln := HM.out.bodies _ hmem
    dsimp only at hby hln
    have hn3 : n3 ≤ 10000 := by rw [← hr3.natLen]; exact hln
    have hbA : Below w3.heap.size w3 (w3.alloc (.cells #[.int .u8 3, .slice A3 n3 c3] 45)) := (Below.refl _ _).alloc (Nat.le_refl _) _
    have KO := Lib.hid (Blk.new w3 45 #[.int .u8 3, .slice A3 n3 c3])
    have hb4 := hb3.trans (hbA.mono hb3.size)
    have K0 := Lib.hid (hk0.out.below hb4 hk0.out.lt)
    have K1 := Lib.hid (hk1.out.below hb4 hk1.out.lt)
    have K2 := Lib.hid (hk2.out.below hb4 hk2.out.lt)
    have B4 := Lib.hid (b1.out.trans (hb4.mono b1.out.size))
    have HC := Lib.hid (CovV.mk (kd := 3) (HS.out.into hb4) HG.out (hr3.into hbA) hc3 hn3 (by decide) HM.out.data hby)
    obtain ⟨o, hO⟩ : ∃ o, o = w3.heap.size := ⟨_, rfl⟩
    have hTo : T + 2 < o := by rw [hO]; exact Nat.lt_of_lt_of_le hk2.out.lt hb3.size
    clear hbA hb4 hb3 hk0 hk1 hk2 b1 HS hr3 ho3 hmem hby hln
    go_wp2_with fail
    rw [← hO] at KO ⊢
    clear hO
    generalize w3.alloc (.cells #[.int .u8 3, .slice A3 n3 c3] 45) = w4 at *
    refine (parseData_any 3 A3 n3 c3 b3 w4 HC.out.row HC.out.cap HC.out.bytes hn3).mono ?_
    rintro e w5 ⟨hp, hb5⟩
    obtain ⟨f, p, sq, ak, wn, t, ok, rfl, hR⟩ := dataPost_r hp
    have HR := Lib.hid hR
    clear hp hR
    cases ok with
    | false =>
      have hb6 : Below w4.heap.size w4 (w5.alloc (.cells #[.bool f, .bool p, .int .u64 (sq : Int), .int .u64 (ak : Int), .int .u32 (wn : Int), .int .u64 (t : Int) ] 38)) := hb5.trans (((Below.refl w5.heap.size w5).alloc (Nat.le_refl _) _).mono hb5.size)
      have K6 := Lib.hid (K2.out.below hb6 K2.out.lt)
      have B6 := Lib.hid (B4.out.trans (hb6.mono B4.out.size))
      have HNO := Lib.hid (OpenR.no (k0 := k0) (k1 := k1) (g := g) fun f' p' sq' ak' wn' t' h => by
        obtain ⟨lb, e1, e2, _⟩ := h
        rw [HO3.out] at e1
        injection e1 with _ e1
        injection e1 with e1 _
        subst e1
        rcases HR.out with ⟨h, _⟩ | ⟨_, _, h⟩
        · cases h
        · exact h _ _ _ _ _ _ e2)
      clear hb6 hb5 K0 K1 K2 KO B4 HC
      obtain ⟨t0, t1, t2, t3, t4, t5⟩ := ptc6 K6.out
      have f0 := K6.out.frozen 0
      have f1 := K6.out.frozen 1
      have f2 := K6.out.frozen 2
      have f3 := K6.out.frozen 3
      have f4 := K6.out.frozen 4
      have f5 := K6.out.frozen 5
      go_wp2_with fail
      have hkz := pt6 (.bool false) (.bool false) (.int .u64 0) (.int .u64 0) (.int .u32 0) (.int .u64 0) K6.out
      have hbz := ptb6 (.bool false) (.bool false) (.int .u64 0) (.int .u64 0) (.int .u32 0) (.int .u64 0) B6.out (show w.heap.size ≤ T + 2 by rw [← HT.out]; omega)
      unfold ptw6 at hkz hbz
      generalize ((((((w5.alloc (.cells #[.bool f, .bool p, .int .u64 (sq : Int), .int .u64 (ak : Int), .int .u32 (wn : Int), .int .u64 (t : Int)] 38)).setCell ⟨T + 2, 0, none⟩ (.bool false)).setCell ⟨T + 2, 1, none⟩ (.bool false)).setCell ⟨T + 2, 2, none⟩ (.int .u64 0)).setCell ⟨T + 2, 3, none⟩ (.int .u64 0)).setCell ⟨T + 2, 4, none⟩ (.int .u32 0)).setCell ⟨T + 2, 5, none⟩ (.int .u64 0) = wz at *
      clear t0 t1 t2 t3 t4 t5 f0 f1 f2 f3 f4 f5
      obtain ⟨z0, z1, z2, z3, z4, z5⟩ := ptc6 hkz
      exact bodyPost_ret (v := .tuple #[.agg #[.bool false, .bool false, .int .u64 0, .int .u64 0, .int .u32 0, .int .u64 0], .bool false]) (by simp [results, Try.results27, go_sem, z0, z1, z2, z3, z4, z5]) rfl ⟨⟨_, _, _, _, _, _, _, rfl, HNO.out⟩, hbz⟩
    | true =>
      have HDI := Lib.hid (show DataIs 3 b3 f p sq ak wn t from by
        rcases HR.out with ⟨_, h⟩ | ⟨h, _⟩
        · exact h
        · cases h)
      have hbD : Below w5.heap.size w5 (w5.alloc (.cells #[.bool f, .bool p, .int .u64 (sq : Int), .int .u64 (ak : Int), .int .u32 (wn : Int), .int .u64 (t : Int) ] 38)) := (Below.refl w5.heap.size w5).alloc (Nat.le_refl _) _
      have KD := Lib.hid (Blk.new w5 38 #[.bool f, .bool p, .int .u64 (sq : Int), .int .u64 (ak : Int), .int .u32 (wn : Int), .int .u64 (t : Int)])
      have hb6 := hb5.trans (hbD.mono hb5.size)
      have K06 := Lib.hid (K0.out.below hb6 K0.out.lt)
      have K16 := Lib.hid (K1.out.below hb6 K1.out.lt)
      have K26 := Lib.hid (K2.out.below hb6 K2.out.lt)
      have KO6 := Lib.hid (KO.out.below hb6 KO.out.lt)
      have HC6 := Lib.hid (HC.out.into hb6)
      have B6 := Lib.hid (B4.out.trans (hb6.mono B4.out.size))
      obtain ⟨x, hX⟩ : ∃ x, x = w5.heap.size := ⟨_, rfl⟩
      have hox : o < x := by rw [hX]; exact Nat.lt_of_lt_of_le KO.out.lt hb5.size
      clear hbD hb6 hb5 K0 K1 K2 KO B4 HC HR
      obtain ⟨tg, htg⟩ : ∃ tg, tg = tagN k0 k1 g 3 b3 := ⟨_, rfl⟩
      have HTG := Lib.hid htg
      clear htg
      obtain ⟨x0, x1, x2, x3, x4, x5⟩ := ptc6 KD.out
      rw [← hX] at x0 x1 x2 x3 x4 x5
      obtain ⟨p0, p1⟩ := ptc2 K06.out
      obtain ⟨s0, s1, s2, s3, s4, s5, s6⟩ := seg_cells K16.out
      obtain ⟨o0, o1⟩ := ptc2 KO6.out
      rw [← hX] at KD
      go_wp2_with fail
      rw [← hX]
      clear hX p0 p1 s0 s1 s2 s3 s4 s5 s6 o0 o1 x0 x1 x2 x3 x4 x5
      generalize w5.alloc (.cells #[.bool f, .bool p, .int .u64 (sq : Int), .int .u64 (ak : Int), .int .u32 (wn : Int), .int .u64 (t : Int)] 38) = w6 at *
      refine (mright_any k0 k1 t _ g A3 n3 c3 3 b3 w6 h0 h1 HC6.out).mono ?_
      rw [← HTG.out]
      rintro e w7 ⟨rfl, hb7⟩
      have K7 := Lib.hid (K26.out.below hb7 K26.out.lt)
      have KD7 := Lib.hid (KD.out.below hb7 KD.out.lt)
      have B7 := Lib.hid (B6.out.trans (hb7.mono B6.out.size))
      clear K26 KD B6 hb7 K06 K16 KO6 HC6
      by_cases hq : t = tg
      · have hqd : decide (t = tg) = true := decide_eq_true hq
        have HYY := Lib.hid (show OpenR k0 k1 g f p sq ak wn t true from .inl ⟨rfl, b3, HO3.out, HDI.out, hq.trans HTG.out⟩)
        clear hq HDI HO3 HTG
        obtain ⟨t0, t1, t2, t3, t4, t5⟩ := ptc6 K7.out
        have f0 := K7.out.frozen 0
        have f1 := K7.out.frozen 1
        have f2 := K7.out.frozen 2
        have f3 := K7.out.frozen 3
        have f4 := K7.out.frozen 4
        have f5 := K7.out.frozen 5
        obtain ⟨x0, x1, x2, x3, x4, x5⟩ := ptc6 KD7.out
        go_wp2_with fail
        have hkz := pt6 (.bool f) (.bool p) (.int .u64 (sq : Int)) (.int .u64 (ak : Int)) (.int .u32 (wn : Int)) (.int .u64 (t : Int)) K7.out
        have hbz := ptb6 (.bool f) (.bool p) (.int .u64 (sq : Int)) (.int .u64 (ak : Int)) (.int .u32 (wn : Int)) (.int .u64 (t : Int)) B7.out (show w.heap.size ≤ T + 2 by rw [← HT.out]; omega)
        unfold ptw6 at hkz hbz
        generalize (((((w7.setCell ⟨T + 2, 0, none⟩ (.bool f)).setCell ⟨T + 2, 1, none⟩ (.bool p)).setCell ⟨T + 2, 2, none⟩ (.int .u64 (sq : Int))).setCell ⟨T + 2, 3, none⟩ (.int .u64 (ak : Int))).setCell ⟨T + 2, 4, none⟩ (.int .u32 (wn : Int))).setCell ⟨T + 2, 5, none⟩ (.int .u64 (t : Int)) = wz at *
        clear t0 t1 t2 t3 t4 t5 f0 f1 f2 f3 f4 f5
        obtain ⟨z0, z1, z2, z3, z4, z5⟩ := ptc6 hkz
        exact bodyPost_ret (v := .tuple #[.agg #[.bool f, .bool p, .int .u64 (sq : Int), .int .u64 (ak : Int), .int .u32 (wn : Int), .int .u64 (t : Int)], .bool true]) (by simp [results, Try.results27, go_sem, z0, z1, z2, z3, z4, z5]) rfl ⟨⟨_, _, _, _, _, _, _, rfl, HYY.out⟩, hbz⟩
      · have hqd : decide (t = tg) = false := decide_eq_false hq
        have HNO := Lib.hid (OpenR.no (k0 := k0) (k1 := k1) (g := g) fun f' p' sq' ak' wn' t' h => by
          obtain ⟨lb, e1, e2, e3⟩ := h
          rw [HO3.out] at e1
          injection e1 with _ e1
          injection e1 with e1 _
          subst e1
          have e4 := (e2.one HDI.out).2.2.2.2.2
          exact hq (by rw [← e4, e3, HTG.out]))
        clear hq HDI HO3 HTG
        obtain ⟨t0, t1, t2, t3, t4, t5⟩ := ptc6 K7.out
        have f0 := K7.out.frozen 0
        have f1 := K7.out.frozen 1
        have f2 := K7.out.frozen 2
        have f3 := K7.out.frozen 3
        have f4 := K7.out.frozen 4
        have f5 := K7.out.frozen 5
        go_wp2_with fail
        have hkz := pt6 (.bool false) (.bool false) (.int .u64 0) (.int .u64 0) (.int .u32 0) (.int .u64 0) K7.out
        have hbz := ptb6 (.bool false) (.bool false) (.int .u64 0) (.int .u64 0) (.int .u32 0) (.int .u64 0) B7.out (show w.heap.size ≤ T + 2 by rw [← HT.out]; omega)
        unfold ptw6 at hkz hbz
        generalize (((((w7.setCell ⟨T + 2, 0, none⟩ (.bool false)).setCell ⟨T + 2, 1, none⟩ (.bool false)).setCell ⟨T + 2, 2, none⟩ (.int .u64 0)).setCell ⟨T + 2, 3, none⟩ (.int .u64 0)).setCell ⟨T + 2, 4, none⟩ (.int .u32 0)).setCell ⟨T + 2, 5, none⟩ (.int .u64 0) = wz at *
        clear t0 t1 t2 t3 t4 t5 f0 f1 f2 f3 f4 f5
        obtain ⟨z0, z1, z2, z3, z4, z5⟩ := ptc6 hkz
        exact bodyPost_ret (v := .tuple #[.agg #[.bool false, .bool false, .int .u64 0, .int .u64 0, .int .u32 0, .int .u64 0], .bool false]) (by simp [results, Try.results27, go_sem, z0, z1, z2, z3, z4, z5]) rfl ⟨⟨_, _, _, _, _, _, _, rfl, HNO.out⟩, hbz⟩
end Go.Proofs.Ytbiimgfocgbdaaa
