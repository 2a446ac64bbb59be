/- Layer 10: the law MacBack answers true, and nothing that was there has turned. -/
import Derived.Test.YtbiimgfocgbdaaaG44MacBack
import Derived.Test.YtbiimgfocgbdaaaG45MacBack
import Derived.Test.YtbiimgfocgbdaaaG46MacBack
import Derived.Test.YtbiimgfocgbdaaaG30MacBack
import Derived.Test.YtbiimgfocgbdaaaG47MacBack
import Derived.Test.YtbiimgfocgbdaaaG48MacBack
import Derived.Test.YtbiimgfocgbdaaaG11MacBack
import Derived.Test.YtbiimgfocgbdaaaG42MacBack
import Derived.Test.YtbiimgfocgbdaaaG41MacBack
import Derived.Test.YtbiimgfocgbdaaaG49MacBack
import Derived.Deep.Cut

namespace Go.Proofs.Ytbiimgfocgbdaaa
open Go.RowKit
set_option linter.unusedVariables false
set_option linter.unusedSimpArgs false
theorem OO.os2 {w : World} {B n c : Nat} {A : Option Addr} {l : List Ob} (h : OO w B (.slice A n c) l) (hm : ∀ p ∈ l, Rd w w.heap.size 1 p.2.A p.2.n (ns .u8 p.2.l) ∧ p.2.n ≤ p.2.c ∧ p.2.c ≤ maxLen) : Os w A n c l := by
  obtain ⟨A', n', c', e, h1, h2, h3, h4⟩ := h.out
  injection e with e1 e2 e3
  subst e1 e2 e3
  exact ⟨h4.out, hm, h1, h2⟩
theorem eqlOW (kd nm wi pa : Nat) (wb : Bool) (wt : Nat) (w : World) : (binOp .eql 40 (.agg #[.int .u8 (kd : Nat), .int .u32 (nm : Nat), .int .u8 (wi : Nat), .int .u8 (pa : Nat), .bool wb, .int .u64 (wt : Nat)]) (.agg #[.int .u8 (kd : Nat), .int .u32 (nm : Nat), .int .u8 (wi : Nat), .int .u8 (pa : Nat), .bool wb, .int .u64 (wt : Nat)])).run Try.prog w = .ok (.bool true) w := by
  have h : (Op.equalIn 10000 40 (.agg #[.int .u8 (kd : Nat), .int .u32 (nm : Nat), .int .u8 (wi : Nat), .int .u8 (pa : Nat), .bool wb, .int .u64 (wt : Nat)]) (.agg #[.int .u8 (kd : Nat), .int .u32 (nm : Nat), .int .u8 (wi : Nat), .int .u8 (pa : Nat), .bool wb, .int .u64 (wt : Nat)])).run Try.prog w = .ok true w := by
    rw [show (10000 : Nat) = 9999 + 1 from rfl, run_equalIn_agg w 9999 40 _ _ (by kernel_rfl) (by kernel_rfl)]
    simp [go_sem]
  rw [run_eql_struct, h]
  rfl
theorem cells_six {w : World} {ab o : Nat} {a0 a1 a2 a3 a4 a5 : Value} (h0 : w.cell? ⟨ab, o, none⟩ = some a0) (h1 : w.cell? ⟨ab, o + 1, none⟩ = some a1) (h2 : w.cell? ⟨ab, o + 2, none⟩ = some a2) (h3 : w.cell? ⟨ab, o + 3, none⟩ = some a3) (h4 : w.cell? ⟨ab, o + 4, none⟩ = some a4) (h5 : w.cell? ⟨ab, o + 5, none⟩ = some a5) : ∀ j v, [a0, a1, a2, a3, a4, a5][j]? = some v → w.cell? ⟨ab, o + j, none⟩ = some v := by
  intro j v hj
  match j, hj with
  | 0, hj => simp at hj; subst hj; exact h0
  | 1, hj => simp at hj; subst hj; exact h1
  | 2, hj => simp at hj; subst hj; exact h2
  | 3, hj => simp at hj; subst hj; exact h3
  | 4, hj => simp at hj; subst hj; exact h4
  | 5, hj => simp at hj; subst hj; exact h5
  | n + 6, hj => simp at hj
set_option maxRecDepth 20000 in
set_option maxHeartbeats 4000000 in
theorem macBack_walk (k0 k1 : Nat) (v : Value) (g : Sg) (x : OA) (w : World) (h0 : k0 < 18446744073709551616) (h1 : k1 < 18446744073709551616) (hv : SegV w v g) (hg : g.bd) (hx : x.bd) :
    Calls Try.prog 5 #[.agg #[.int .u64 (k0 : Nat), .int .u64 (k1 : Nat)], v, .agg x.cs] w fun e w' => e = .returned (.bool true) ∧ Below w.heap.size w w' := by
  have HS := Lib.hid hv
  obtain ⟨A1, n1, c1, D, m, d, lo, rfl, hO, ho, hD, hmd, hdm⟩ := hv
  have HO := Lib.hid hO
  have HOS := Lib.hid ho
  have HGL := Lib.hid hO.len
  have HG := Lib.hid hg
  obtain ⟨kk, ka, kt, tk, nc, id, bk, ja, jt, f, p, sq, ak, wn, dt, kd, nm, wi, pa, wb, wt⟩ := x
  obtain ⟨x1, x2, x3, x4, x5, x6, x7, x8, x9, x10, x11, x12, x13, x14, x15⟩ := hx
  have HX := Lib.hid (show (q64 kk ∧ q64 kt ∧ q32 tk ∧ q32 nc ∧ id < 256 ∧ q64 jt) ∧ (q64 sq ∧ q64 ak ∧ q32 wn ∧ q64 dt) ∧ (kd < 256 ∧ q32 nm ∧ wi < 256 ∧ pa < 256 ∧ q64 wt) from ⟨⟨x1, x2, x3, x4, x5, x6⟩, ⟨x7, x8, x9, x10⟩, ⟨x11, x12, x13, x14, x15⟩⟩)
  clear hO ho hD hdm hg x1 x2 x3 x4 x5 x6 x7 x8 x9 x10 x11 x12 x13 x14 x15
  unfold segCs OA.cs at *
  dsimp only at *
  go_enter Try.func5, Try.ntmps5
  go_upto_region 1 with fail
  have hk0 : Hid (Blk (w.alloc (.cells #[.int .u64 (k0 : Nat), .int .u64 (k1 : Nat)] 24)) (w.heap.size) 24 #[.int .u64 (k0 : Nat), .int .u64 (k1 : Nat)]) := Lib.hid ((Blk.new w 24 #[.int .u64 (k0 : Nat), .int .u64 (k1 : Nat)]))
  replace hk0 : Hid (Blk ((w.alloc (.cells #[.int .u64 (k0 : Nat), .int .u64 (k1 : Nat)] 24)).alloc (.cells #[.int .u16 (g.src : Int), .int .u16 (g.dst : Int), .int .u32 (g.seq : Int), .int .u32 (g.ack : Int), .int .u8 (g.flags : Int), .slice A1 n1 c1, .slice D m d] 30)) (w.heap.size) 24 #[.int .u64 (k0 : Nat), .int .u64 (k1 : Nat)]) := Lib.hid (hk0.out.alloc _)
  replace hk0 : Hid (Blk (((w.alloc (.cells #[.int .u64 (k0 : Nat), .int .u64 (k1 : Nat)] 24)).alloc (.cells #[.int .u16 (g.src : Int), .int .u16 (g.dst : Int), .int .u32 (g.seq : Int), .int .u32 (g.ack : Int), .int .u8 (g.flags : Int), .slice A1 n1 c1, .slice D m d] 30)).alloc (.cells #[.int .u64 (kk : Nat), .bool ka, .int .u64 (kt : Nat), .int .u32 (tk : Nat), .int .u32 (nc : Nat), .int .u8 (id : Nat), .bool bk, .bool ja, .int .u64 (jt : Nat), .bool f, .bool p, .int .u64 (sq : Nat), .int .u64 (ak : Nat), .int .u32 (wn : Nat), .int .u64 (dt : Nat), .int .u8 (kd : Nat), .int .u32 (nm : Nat), .int .u8 (wi : Nat), .int .u8 (pa : Nat), .bool wb, .int .u64 (wt : Nat)] 42)) (w.heap.size) 24 #[.int .u64 (k0 : Nat), .int .u64 (k1 : Nat)]) := Lib.hid (hk0.out.alloc _)
  have hk1 : Hid (Blk ((w.alloc (.cells #[.int .u64 (k0 : Nat), .int .u64 (k1 : Nat)] 24)).alloc (.cells #[.int .u16 (g.src : Int), .int .u16 (g.dst : Int), .int .u32 (g.seq : Int), .int .u32 (g.ack : Int), .int .u8 (g.flags : Int), .slice A1 n1 c1, .slice D m d] 30)) (w.heap.size + 1) 30 #[.int .u16 (g.src : Int), .int .u16 (g.dst : Int), .int .u32 (g.seq : Int), .int .u32 (g.ack : Int), .int .u8 (g.flags : Int), .slice A1 n1 c1, .slice D m d]) := Lib.hid ((Blk.new (w.alloc (.cells #[.int .u64 (k0 : Nat), .int .u64 (k1 : Nat)] 24)) 30 #[.int .u16 (g.src : Int), .int .u16 (g.dst : Int), .int .u32 (g.seq : Int), .int .u32 (g.ack : Int), .int .u8 (g.flags : Int), .slice A1 n1 c1, .slice D m d]) |> fun h => by simpa using h)
  replace hk1 : Hid (Blk (((w.alloc (.cells #[.int .u64 (k0 : Nat), .int .u64 (k1 : Nat)] 24)).alloc (.cells #[.int .u16 (g.src : Int), .int .u16 (g.dst : Int), .int .u32 (g.seq : Int), .int .u32 (g.ack : Int), .int .u8 (g.flags : Int), .slice A1 n1 c1, .slice D m d] 30)).alloc (.cells #[.int .u64 (kk : Nat), .bool ka, .int .u64 (kt : Nat), .int .u32 (tk : Nat), .int .u32 (nc : Nat), .int .u8 (id : Nat), .bool bk, .bool ja, .int .u64 (jt : Nat), .bool f, .bool p, .int .u64 (sq : Nat), .int .u64 (ak : Nat), .int .u32 (wn : Nat), .int .u64 (dt : Nat), .int .u8 (kd : Nat), .int .u32 (nm : Nat), .int .u8 (wi : Nat), .int .u8 (pa : Nat), .bool wb, .int .u64 (wt : Nat)] 42)) (w.heap.size + 1) 30 #[.int .u16 (g.src : Int), .int .u16 (g.dst : Int), .int .u32 (g.seq : Int), .int .u32 (g.ack : Int), .int .u8 (g.flags : Int), .slice A1 n1 c1, .slice D m d]) := Lib.hid (hk1.out.alloc _)
  have hk2 : Hid (Blk (((w.alloc (.cells #[.int .u64 (k0 : Nat), .int .u64 (k1 : Nat)] 24)).alloc (.cells #[.int .u16 (g.src : Int), .int .u16 (g.dst : Int), .int .u32 (g.seq : Int), .int .u32 (g.ack : Int), .int .u8 (g.flags : Int), .slice A1 n1 c1, .slice D m d] 30)).alloc (.cells #[.int .u64 (kk : Nat), .bool ka, .int .u64 (kt : Nat), .int .u32 (tk : Nat), .int .u32 (nc : Nat), .int .u8 (id : Nat), .bool bk, .bool ja, .int .u64 (jt : Nat), .bool f, .bool p, .int .u64 (sq : Nat), .int .u64 (ak : Nat), .int .u32 (wn : Nat), .int .u64 (dt : Nat), .int .u8 (kd : Nat), .int .u32 (nm : Nat), .int .u8 (wi : Nat), .int .u8 (pa : Nat), .bool wb, .int .u64 (wt : Nat)] 42)) (w.heap.size + 2) 42 #[.int .u64 (kk : Nat), .bool ka, .int .u64 (kt : Nat), .int .u32 (tk : Nat), .int .u32 (nc : Nat), .int .u8 (id : Nat), .bool bk, .bool ja, .int .u64 (jt : Nat), .bool f, .bool p, .int .u64 (sq : Nat), .int .u64 (ak : Nat), .int .u32 (wn : Nat), .int .u64 (dt : Nat), .int .u8 (kd : Nat), .int .u32 (nm : Nat), .int .u8 (wi : Nat), .int .u8 (pa : Nat), .bool wb, .int .u64 (wt : Nat)]) := Lib.hid ((Blk.new ((w.alloc (.cells #[.int .u64 (k0 : Nat), .int .u64 (k1 : Nat)] 24)).alloc (.cells #[.int .u16 (g.src : Int), .int .u16 (g.dst : Int), .int .u32 (g.seq : Int), .int .u32 (g.ack : Int), .int .u8 (g.flags : Int), .slice A1 n1 c1, .slice D m d] 30)) 42 #[.int .u64 (kk : Nat), .bool ka, .int .u64 (kt : Nat), .int .u32 (tk : Nat), .int .u32 (nc : Nat), .int .u8 (id : Nat), .bool bk, .bool ja, .int .u64 (jt : Nat), .bool f, .bool p, .int .u64 (sq : Nat), .int .u64 (ak : Nat), .int .u32 (wn : Nat), .int .u64 (dt : Nat), .int .u8 (kd : Nat), .int .u32 (nm : Nat), .int .u8 (wi : Nat), .int .u8 (pa : Nat), .bool wb, .int .u64 (wt : Nat)]) |> fun h => by simpa using h)
  have b1 : Hid (Below w.heap.size w (((w.alloc (.cells #[.int .u64 (k0 : Nat), .int .u64 (k1 : Nat)] 24)).alloc (.cells #[.int .u16 (g.src : Int), .int .u16 (g.dst : Int), .int .u32 (g.seq : Int), .int .u32 (g.ack : Int), .int .u8 (g.flags : Int), .slice A1 n1 c1, .slice D m d] 30)).alloc (.cells #[.int .u64 (kk : Nat), .bool ka, .int .u64 (kt : Nat), .int .u32 (tk : Nat), .int .u32 (nc : Nat), .int .u8 (id : Nat), .bool bk, .bool ja, .int .u64 (jt : Nat), .bool f, .bool p, .int .u64 (sq : Nat), .int .u64 (ak : Nat), .int .u32 (wn : Nat), .int .u64 (dt : Nat), .int .u8 (kd : Nat), .int .u32 (nm : Nat), .int .u8 (wi : Nat), .int .u8 (pa : Nat), .bool wb, .int .u64 (wt : Nat)] 42))) := Lib.hid ((((Below.refl w.heap.size w).alloc (Nat.le_refl _) (.cells #[.int .u64 (k0 : Nat), .int .u64 (k1 : Nat)] 24)).alloc (by simp <;> omega) (.cells #[.int .u16 (g.src : Int), .int .u16 (g.dst : Int), .int .u32 (g.seq : Int), .int .u32 (g.ack : Int), .int .u8 (g.flags : Int), .slice A1 n1 c1, .slice D m d] 30)).alloc (by simp <;> omega) (.cells #[.int .u64 (kk : Nat), .bool ka, .int .u64 (kt : Nat), .int .u32 (tk : Nat), .int .u32 (nc : Nat), .int .u8 (id : Nat), .bool bk, .bool ja, .int .u64 (jt : Nat), .bool f, .bool p, .int .u64 (sq : Nat), .int .u64 (ak : Nat), .int .u32 (wn : Nat), .int .u64 (dt : Nat), .int .u8 (kd : Nat), .int .u32 (nm : Nat), .int .u8 (wi : Nat), .int .u8 (pa : Nat), .bool wb, .int .u64 (wt : Nat)] 42))
  have hz : (((w.alloc (.cells #[.int .u64 (k0 : Nat), .int .u64 (k1 : Nat)] 24)).alloc (.cells #[.int .u16 (g.src : Int), .int .u16 (g.dst : Int), .int .u32 (g.seq : Int), .int .u32 (g.ack : Int), .int .u8 (g.flags : Int), .slice A1 n1 c1, .slice D m d] 30)).alloc (.cells #[.int .u64 (kk : Nat), .bool ka, .int .u64 (kt : Nat), .int .u32 (tk : Nat), .int .u32 (nc : Nat), .int .u8 (id : Nat), .bool bk, .bool ja, .int .u64 (jt : Nat), .bool f, .bool p, .int .u64 (sq : Nat), .int .u64 (ak : Nat), .int .u32 (wn : Nat), .int .u64 (dt : Nat), .int .u8 (kd : Nat), .int .u32 (nm : Nat), .int .u8 (wi : Nat), .int .u8 (pa : Nat), .bool wb, .int .u64 (wt : Nat)] 42)).heap.size = w.heap.size + 3 := by simp
  generalize (((w.alloc (.cells #[.int .u64 (k0 : Nat), .int .u64 (k1 : Nat)] 24)).alloc (.cells #[.int .u16 (g.src : Int), .int .u16 (g.dst : Int), .int .u32 (g.seq : Int), .int .u32 (g.ack : Int), .int .u8 (g.flags : Int), .slice A1 n1 c1, .slice D m d] 30)).alloc (.cells #[.int .u64 (kk : Nat), .bool ka, .int .u64 (kt : Nat), .int .u32 (tk : Nat), .int .u32 (nc : Nat), .int .u8 (id : Nat), .bool bk, .bool ja, .int .u64 (jt : Nat), .bool f, .bool p, .int .u64 (sq : Nat), .int .u64 (ak : Nat), .int .u32 (wn : Nat), .int .u64 (dt : Nat), .int .u8 (kd : Nat), .int .u32 (nm : Nat), .int .u8 (wi : Nat), .int .u8 (pa : Nat), .bool wb, .int .u64 (wt : Nat)] 42)) = w2 at hk0 hk1 hk2 b1 hz ⊢
  have HZ := Lib.hid hz
  clear hz
  replace HS := Lib.hid (HS.out.into b1.out)
  replace HO := Lib.hid (HO.out.into b1.out)
  have KB := hk0
  have KS := hk1
  have KX := hk2
  clear hk0 hk1 hk2 HZ
  obtain ⟨p0, p1⟩ := ptc2 KB.out
  obtain ⟨s0, s1, s2, s3, s4, s5, s6⟩ := seg_cells KS.out
  go_wp2_with fail
  clear p0 p1 s0 s1 s2 s3 s4 s5 s6
  refine (great_any _ g w2 HS.out).mono ?_
  rintro e w3 ⟨rfl, hb3⟩
  replace KB := Lib.hid (KB.out.below hb3 KB.out.lt)
  replace KS := Lib.hid (KS.out.below hb3 KS.out.lt)
  replace KX := Lib.hid (KX.out.below hb3 KX.out.lt)
  replace HS := Lib.hid (HS.out.into hb3)
  replace HO := Lib.hid (HO.out.into hb3)
  replace b1 := Lib.hid (b1.out.trans (hb3.mono b1.out.size))
  clear hb3
  obtain ⟨s0, s1, s2, s3, s4, s5, s6⟩ := seg_cells KS.out
  have y15 : w3.cell? ⟨w.heap.size + 2, 15, none⟩ = some (.int .u8 (kd : Nat)) := KX.out.cell 15
  cases hgr : greatS g with
  | true =>
    clear hgr
    go_wp2_with fail
    go_ret
    exact ⟨rfl, b1.out⟩
  | false =>
  obtain ⟨hsm, hq1, hq2, hq3⟩ := greatS_small hgr
  have HM := Lib.hid hsm
  clear hgr hsm hq1 hq2 hq3
  by_cases hbig : (60 : Int) < (n1 : Int)
  · go_wp2_with fail
    go_ret
    exact ⟨rfl, b1.out⟩
  by_cases hlow : (kd : Int) < 4
  · go_wp2_with fail
    go_ret
    exact ⟨rfl, b1.out⟩
  by_cases hhigh : (7 : Int) < (kd : Int)
  · go_wp2_with fail
    go_ret
    exact ⟨rfl, b1.out⟩
  have HN := Lib.hid (show n1 ≤ 60 from by omega)
  have HK := Lib.hid (show 4 ≤ kd ∧ kd ≤ 7 from ⟨by omega, by omega⟩)
  go_wp2_with fail
  clear s0 s1 s2 s3 s4 s5 s6
  clear y15
  clear hbig hlow hhigh
  have KB3 := Lib.hid KB.out.lt
  have KS3 := Lib.hid KS.out.lt
  have KX3 := Lib.hid KX.out.lt
  go_loopw [7, 8] (fun ov iv wr => ∃ i : Nat, i ≤ n1 ∧ iv = .int .i64 (i : Nat) ∧ Hid (OO wr w3.heap.size ov (keptK (lo.take i))) ∧ Hid (Below w3.heap.size w3 wr)) (fun _ iv _ => n1 - (intOf iv).toNat)
  case atStart => exact ⟨0, Nat.zero_le _, rfl, Lib.hid (OO.nil _ _), Lib.hid (Below.refl _ _)⟩
  case round =>
    obtain ⟨i, hi, rfl, hown, hbw⟩ := hrel
    have KSr := Lib.hid (KS.out.below hbw.out KS.out.lt)
    by_cases hlt : i < n1
    · have HLT := Lib.hid hlt
      have hlt' : (i : Int) < (n1 : Int) := by omega
      have HOr := Lib.hid (HO.out.into hbw.out)
      obtain ⟨_, _, _, _, _, s5, _⟩ := seg_cells KSr.out
      obtain ⟨ab, ao, ko, q, eA, hab0, c0, c1', hp, hr, hrl⟩ := HOr.out.at_ hlt
      obtain ⟨qA, qn, qc, ql⟩ := q
      dsimp only at *
      have HP := Lib.hid hp.out
      have hws2 := Lib.hid (keptK_le (l := lo) (i := i))
      have BW := hbw
      have OW := hown
      obtain ⟨A5, n5, c5, rfl, hc5, hm5, hl5, _⟩ := OW.out.out
      clear hr hrl hp HOr hlt hbw hown KSr
      rw [eA] at s5
      clear eA
      by_cases e1 : ko = 1
      · have f1 : ((ko : Int) == 1) = true := by rw [e1]; rfl
        have HKE := Lib.hid (show keptK (lo.take (i + 1)) = keptK (lo.take i) ++ [(ko, ⟨qA, qn, qc, ql⟩)] from keptK_yes HP.out (by rw [e1]; rfl))
        clear e1
        go_wp2_with (at_builtin; refine appZ sgsEl #[.int .u8 (ko : Nat), .slice qA qn qc] rfl (ocs_one [(ko, ⟨qA, qn, qc, ql⟩)]) rfl (.tmp 67) (.tmp 73) rfl rfl (show wr.ownsRow w3.heap.size 45 2 (.slice A5 n5 c5) n5 (ocs (keptK (lo.take i))) from by have h := OW.out; unfold OO at h; rwa [hl5.out] at h) rfl rfl (room_ge (by have := hws2.out; have := HLT.out; have := HN.out; have := hl5.out; omega)) BW.out.size ?_)
        intro v8 w8 ho8 _ hb8
        have O8 := Lib.hid (show OO w8 w3.heap.size v8 (keptK (lo.take (i + 1))) from by
          unfold OO
          rw [HKE.out, List.length_append, ocs_append, hl5.out]
          exact ho8)
        have B8 := Lib.hid (BW.out.trans hb8)
        clear OW BW ho8 hb8 s5 c0 c1' HKE
        go_wp2_with fail
        go_roundw
        case rel => exact ⟨i + 1, by have := HLT.out; omega, by go_num, O8, B8⟩
        case measure => have := HLT.out; simp [intOf]; omega
      have f1 : ((ko : Int) == 1) = false := by simp; omega
      by_cases e2 : ko = 2
      · have f2 : ((ko : Int) == 2) = true := by rw [e2]; rfl
        have HKE := Lib.hid (show keptK (lo.take (i + 1)) = keptK (lo.take i) ++ [(ko, ⟨qA, qn, qc, ql⟩)] from keptK_yes HP.out (by rw [e2]; rfl))
        clear e1 e2
        go_wp2_with (at_builtin; refine appZ sgsEl #[.int .u8 (ko : Nat), .slice qA qn qc] rfl (ocs_one [(ko, ⟨qA, qn, qc, ql⟩)]) rfl (.tmp 67) (.tmp 73) rfl rfl (show wr.ownsRow w3.heap.size 45 2 (.slice A5 n5 c5) n5 (ocs (keptK (lo.take i))) from by have h := OW.out; unfold OO at h; rwa [hl5.out] at h) rfl rfl (room_ge (by have := hws2.out; have := HLT.out; have := HN.out; have := hl5.out; omega)) BW.out.size ?_)
        intro v8 w8 ho8 _ hb8
        have O8 := Lib.hid (show OO w8 w3.heap.size v8 (keptK (lo.take (i + 1))) from by
          unfold OO
          rw [HKE.out, List.length_append, ocs_append, hl5.out]
          exact ho8)
        have B8 := Lib.hid (BW.out.trans hb8)
        clear OW BW ho8 hb8 s5 c0 c1' HKE
        go_wp2_with fail
        go_roundw
        case rel => exact ⟨i + 1, by have := HLT.out; omega, by go_num, O8, B8⟩
        case measure => have := HLT.out; simp [intOf]; omega
      have f2 : ((ko : Int) == 2) = false := by simp; omega
      by_cases e3 : (7 : Int) < (ko : Int)
      · have HKE := Lib.hid (show keptK (lo.take (i + 1)) = keptK (lo.take i) ++ [(ko, ⟨qA, qn, qc, ql⟩)] from keptK_yes HP.out (by unfold okK; simp; omega))
        clear e1 e2
        go_wp2_with (at_builtin; refine appZ sgsEl #[.int .u8 (ko : Nat), .slice qA qn qc] rfl (ocs_one [(ko, ⟨qA, qn, qc, ql⟩)]) rfl (.tmp 67) (.tmp 73) rfl rfl (show wr.ownsRow w3.heap.size 45 2 (.slice A5 n5 c5) n5 (ocs (keptK (lo.take i))) from by have h := OW.out; unfold OO at h; rwa [hl5.out] at h) rfl rfl (room_ge (by have := hws2.out; have := HLT.out; have := HN.out; have := hl5.out; omega)) BW.out.size ?_)
        intro v8 w8 ho8 _ hb8
        have O8 := Lib.hid (show OO w8 w3.heap.size v8 (keptK (lo.take (i + 1))) from by
          unfold OO
          rw [HKE.out, List.length_append, ocs_append, hl5.out]
          exact ho8)
        have B8 := Lib.hid (BW.out.trans hb8)
        clear OW BW ho8 hb8 s5 c0 c1' HKE
        go_wp2_with fail
        go_roundw
        case rel => exact ⟨i + 1, by have := HLT.out; omega, by go_num, O8, B8⟩
        case measure => have := HLT.out; simp [intOf]; omega
      have HKE := Lib.hid (show keptK (lo.take (i + 1)) = keptK (lo.take i) from keptK_no HP.out (by unfold okK; simp; omega))
      clear e1 e2
      go_wp2_with fail
      go_roundw
      case rel => exact ⟨i + 1, by have := HLT.out; omega, by go_num, by rw [HKE.out]; exact OW, BW⟩
      case measure => have := HLT.out; simp [intOf]; omega
    · obtain rfl : n1 = i := by omega
      have hall : lo.take n1 = lo := List.take_of_length_le (by rw [HGL.out]; exact Nat.le_refl _)
      rw [hall] at hown
      have OW := hown
      have HLE := Lib.hid (show (keptK lo).length ≤ 60 from by have := keptK_le (l := lo) (i := n1); rw [hall] at this; have := HN.out; omega)
      have BW := hbw
      obtain ⟨A5, n5, c5, rfl, hc5, hm5, hl5, _⟩ := OW.out.out
      have HL5 := Lib.hid (show n5 ≤ 60 from by rw [← hl5.out]; exact HLE.out)
      clear hall hown hbw hlt hi KSr
      replace KB := Lib.hid (KB.out.below BW.out KB.out.lt)
      replace KS := Lib.hid (KS.out.below BW.out KS.out.lt)
      replace KX := Lib.hid (KX.out.below BW.out KX.out.lt)
      have HSr := Lib.hid (HS.out.into BW.out)
      obtain ⟨T1, hT1⟩ : ∃ T, T = tagN k0 k1 g kd (wordB nm wi pa wb wt) := ⟨_, rfl⟩
      obtain ⟨T2, hT2⟩ : ∃ T, T = tagN k0 k1 g 3 (dataB f p sq ak wn dt) := ⟨_, rfl⟩
      have HT1 := Lib.hid hT1
      have HT2 := Lib.hid hT2
      have HCW : Hid (∀ w' v, SegV w' v g → Calls Try.prog 25 #[.agg #[.int .u64 (k0 : Nat), .int .u64 (k1 : Nat)], v, .agg #[.int .u8 (kd : Nat), .int .u32 (nm : Nat), .int .u8 (wi : Nat), .int .u8 (pa : Nat), .bool wb, .int .u64 (wt : Nat)]] w' fun e w'' => OptPost kd (wordB nm wi pa wb T1) w'.heap.size w'' e ∧ Below w'.heap.size w' w'') := Lib.hid (fun w' v h => by
        rw [HT1.out]
        exact mWord_any k0 k1 v g kd nm wi pa wb wt w' h0 h1 h HG.out HM.out.data HX.out.2.2.1 HX.out.2.2.2.1 HX.out.2.2.2.2.1 HX.out.2.2.2.2.2.1 HX.out.2.2.2.2.2.2)
      have HCD : Hid (∀ w' v, SegV w' v g → Calls Try.prog 24 #[.agg #[.int .u64 (k0 : Nat), .int .u64 (k1 : Nat)], v, .agg #[.bool f, .bool p, .int .u64 (sq : Nat), .int .u64 (ak : Nat), .int .u32 (wn : Nat), .int .u64 (dt : Nat)]] w' fun e w'' => OptPost 3 (dataB f p sq ak wn T2) w'.heap.size w'' e ∧ Below w'.heap.size w' w'') := Lib.hid (fun w' v h => by
        rw [HT2.out]
        exact mData_any k0 k1 v g f p sq ak wn dt w' h0 h1 h HG.out HM.out.data HX.out.2.1.1 HX.out.2.1.2.1 HX.out.2.1.2.2.1 HX.out.2.1.2.2.2)
      clear hT1 hT2
      obtain ⟨_, _, _, _, _, s5, _⟩ := seg_cells KS.out
      go_upto_region 9 with fail
      clear s5
      refine GH.wp_ghl2 (M := false) 17 ((GH.SP.eq (.slice A5 n5 c5)) :: (GH.SP.eq (.agg #[.int .u64 (k0 : Nat), .int .u64 (k1 : Nat)])) :: (GH.SP.eq (.agg #[.int .u16 (g.src : Int), .int .u16 (g.dst : Int), .int .u32 (g.seq : Int), .int .u32 (g.ack : Int), .int .u8 (g.flags : Int), .slice A1 n1 c1, .slice D m d])) :: (GH.SP.eq (.pointer (some ⟨w.heap.size + 2, 15, none⟩))) :: (GH.SP.eq (.agg #[.int .u8 (kd : Nat), .int .u32 (nm : Nat), .int .u8 (wi : Nat), .int .u8 (pa : Nat), .bool wb, .int .u64 (wt : Nat)])) :: (GH.SP.optO kd (wordB nm wi pa wb T1)) :: (GH.SP.eq (.agg #[.int .u64 (k0 : Nat), .int .u64 (k1 : Nat)])) :: (GH.SP.eq (.agg #[.int .u16 (g.src : Int), .int .u16 (g.dst : Int), .int .u32 (g.seq : Int), .int .u32 (g.ack : Int), .int .u8 (g.flags : Int), .slice A1 n1 c1, .slice D m d])) :: (GH.SP.eq (.pointer (some ⟨w.heap.size + 2, 9, none⟩))) :: (GH.SP.eq (.agg #[.bool f, .bool p, .int .u64 (sq : Nat), .int .u64 (ak : Nat), .int .u32 (wn : Nat), .int .u64 (dt : Nat)])) :: (GH.SP.optO 3 (dataB f p sq ak wn T2)) :: (GH.SP.eq (.agg #[.int .u64 (k0 : Nat), .int .u64 (k1 : Nat)])) :: (GH.SP.eq (.agg #[.int .u16 (g.src : Int), .int .u16 (g.dst : Int), .int .u32 (g.seq : Int), .int .u32 (g.ack : Int), .int .u8 (g.flags : Int), .slice A1 n1 c1, .slice D m d])) :: (GH.SP.eq (.pointer (some ⟨w.heap.size + 2, 15, none⟩))) :: (GH.SP.eq (.agg #[.int .u8 (kd : Nat), .int .u32 (nm : Nat), .int .u8 (wi : Nat), .int .u8 (pa : Nat), .bool wb, .int .u64 (wt : Nat)])) :: (GH.SP.optO kd (wordB nm wi pa wb T1)) :: (GH.SP.osO [(kd, wordB nm wi pa wb T1), (3, dataB f p sq ak wn T2), (kd, wordB nm wi pa wb T1)]) :: []) (none :: none :: none :: none :: none :: none :: none :: none :: none :: none :: none :: none :: none :: none :: none :: none :: none :: none :: none :: none :: none :: none :: none :: none :: none :: none :: none :: none :: none :: none :: none :: none :: none :: none :: none :: none :: none :: none :: none :: none :: none :: none :: none :: none :: none :: none :: none :: none :: none :: none :: none :: none :: none :: none :: none :: none :: none :: none :: none :: none :: none :: none :: none :: none :: none :: none :: none :: none :: none :: none :: none :: none :: none :: none :: none :: (some 0) :: (some 1) :: (some 2) :: (some 3) :: (some 4) :: (some 5) :: (some 6) :: (some 7) :: (some 8) :: (some 9) :: (some 10) :: (some 11) :: (some 12) :: (some 13) :: (some 14) :: (some 15) :: (some 16) :: none :: none :: none :: none :: none :: none :: none :: none :: none :: none :: none :: none :: none :: none :: none :: none :: none :: none :: none :: none :: none :: none :: none :: none :: none :: none :: none :: none :: none :: none :: none :: none :: none :: none :: none :: none :: none :: none :: none :: none :: none :: none :: none :: none :: none :: none :: none :: none :: none :: none :: none :: none :: none :: none :: none :: none :: []) [75, 76, 77, 78, 79, 80, 81, 82, 83, 84, 85, 86, 87, 88, 89, 90, 91] (by rfl) (by kernel_rfl) (by kernel_rfl) ?_ ?_ ?_
      · intro S jx v hjx
        match jx, hjx with
        | 0, _ => rfl
        | 1, _ => rfl
        | 2, _ => rfl
        | 3, _ => rfl
        | 4, _ => rfl
        | 5, _ => rfl
        | 6, _ => rfl
        | 7, _ => rfl
        | 8, _ => rfl
        | 9, _ => rfl
        | 10, _ => rfl
        | 11, _ => rfl
        | 12, _ => rfl
        | 13, _ => rfl
        | 14, _ => rfl
        | 15, _ => rfl
        | 16, _ => rfl
        | nx + 17, hjx => omega
      · intro jx hjx S w' hb hd
        match jx, hjx, hd with
        | 0, _, hd =>
          simp only [GH.mkL, List.getD_cons_succ, List.getD_cons_zero]
          clear hd
          refine GH.st_eq (by rfl) ?_
          go_simp
          (try with_reducible rfl)
        | 1, _, hd =>
          simp only [GH.mkL, List.getD_cons_succ, List.getD_cons_zero]
          clear hd
          exact GH.st_loads _ [.int .u64 (k0 : Nat), .int .u64 (k1 : Nat)] (by rfl) rfl rfl (((KB.out.below hb.below KB.out.lt)).loads 0 _ (by rfl)) (by kernel_rfl) (by kernel_rfl)
        | 2, _, hd =>
          simp only [GH.mkL, List.getD_cons_succ, List.getD_cons_zero]
          clear hd
          exact GH.st_loads _ [.int .u16 (g.src : Int), .int .u16 (g.dst : Int), .int .u32 (g.seq : Int), .int .u32 (g.ack : Int), .int .u8 (g.flags : Int), .slice A1 n1 c1, .slice D m d] (by rfl) rfl rfl (((KS.out.below hb.below KS.out.lt)).loads 0 _ (by rfl)) (by kernel_rfl) (by kernel_rfl)
        | 3, _, hd =>
          simp only [GH.mkL, List.getD_cons_succ, List.getD_cons_zero]
          clear hd
          refine GH.st_eq (by rfl) ?_
          go_simp
          (try with_reducible rfl)
        | 4, _, hd =>
          simp only [GH.mkL, List.getD_cons_succ, List.getD_cons_zero]
          have d3 : S 3 = .pointer (some ⟨w.heap.size + 2, 15, none⟩) := (hd 3 (by kernel_rfl)).2
          rw [d3]
          clear d3
          clear hd
          exact GH.st_loads _ [.int .u8 (kd : Nat), .int .u32 (nm : Nat), .int .u8 (wi : Nat), .int .u8 (pa : Nat), .bool wb, .int .u64 (wt : Nat)] (by rfl) rfl rfl (((KX.out.below hb.below KX.out.lt)).loads 15 _ (by rfl)) (by kernel_rfl) (by kernel_rfl)
        | 5, _, hd =>
          simp only [GH.mkL, List.getD_cons_succ, List.getD_cons_zero]
          have d1 : S 1 = .agg #[.int .u64 (k0 : Nat), .int .u64 (k1 : Nat)] := (hd 1 (by kernel_rfl)).2
          rw [d1]
          clear d1
          have d2 : S 2 = .agg #[.int .u16 (g.src : Int), .int .u16 (g.dst : Int), .int .u32 (g.seq : Int), .int .u32 (g.ack : Int), .int .u8 (g.flags : Int), .slice A1 n1 c1, .slice D m d] := (hd 2 (by kernel_rfl)).2
          rw [d2]
          clear d2
          have d4 : S 4 = .agg #[.int .u8 (kd : Nat), .int .u32 (nm : Nat), .int .u8 (wi : Nat), .int .u8 (pa : Nat), .bool wb, .int .u64 (wt : Nat)] := (hd 4 (by kernel_rfl)).2
          rw [d4]
          clear d4
          clear hd
          refine GH.st_call (by rfl) hb.below.size (by go_simp) ((HCW.out w' _ (HSr.out.gr hb)).mono ?_)
          rintro e w9 ⟨⟨v, rfl, hN⟩, hb9⟩
          exact ⟨_, rfl, hb9, (GH.optO_of hN)⟩
        | 6, _, hd =>
          simp only [GH.mkL, List.getD_cons_succ, List.getD_cons_zero]
          clear hd
          exact GH.st_loads _ [.int .u64 (k0 : Nat), .int .u64 (k1 : Nat)] (by rfl) rfl rfl (((KB.out.below hb.below KB.out.lt)).loads 0 _ (by rfl)) (by kernel_rfl) (by kernel_rfl)
        | 7, _, hd =>
          simp only [GH.mkL, List.getD_cons_succ, List.getD_cons_zero]
          clear hd
          exact GH.st_loads _ [.int .u16 (g.src : Int), .int .u16 (g.dst : Int), .int .u32 (g.seq : Int), .int .u32 (g.ack : Int), .int .u8 (g.flags : Int), .slice A1 n1 c1, .slice D m d] (by rfl) rfl rfl (((KS.out.below hb.below KS.out.lt)).loads 0 _ (by rfl)) (by kernel_rfl) (by kernel_rfl)
        | 8, _, hd =>
          simp only [GH.mkL, List.getD_cons_succ, List.getD_cons_zero]
          clear hd
          refine GH.st_eq (by rfl) ?_
          go_simp
          (try with_reducible rfl)
        | 9, _, hd =>
          simp only [GH.mkL, List.getD_cons_succ, List.getD_cons_zero]
          have d8 : S 8 = .pointer (some ⟨w.heap.size + 2, 9, none⟩) := (hd 8 (by kernel_rfl)).2
          rw [d8]
          clear d8
          clear hd
          exact GH.st_loads _ [.bool f, .bool p, .int .u64 (sq : Nat), .int .u64 (ak : Nat), .int .u32 (wn : Nat), .int .u64 (dt : Nat)] (by rfl) rfl rfl (((KX.out.below hb.below KX.out.lt)).loads 9 _ (by rfl)) (by kernel_rfl) (by kernel_rfl)
        | 10, _, hd =>
          simp only [GH.mkL, List.getD_cons_succ, List.getD_cons_zero]
          obtain ⟨A5, n5, c5, d5, O5⟩ := (hd 5 (by kernel_rfl)).2
          rw [d5]
          clear d5
          replace O5 := Lib.hid O5
          have d6 : S 6 = .agg #[.int .u64 (k0 : Nat), .int .u64 (k1 : Nat)] := (hd 6 (by kernel_rfl)).2
          rw [d6]
          clear d6
          have d7 : S 7 = .agg #[.int .u16 (g.src : Int), .int .u16 (g.dst : Int), .int .u32 (g.seq : Int), .int .u32 (g.ack : Int), .int .u8 (g.flags : Int), .slice A1 n1 c1, .slice D m d] := (hd 7 (by kernel_rfl)).2
          rw [d7]
          clear d7
          have d9 : S 9 = .agg #[.bool f, .bool p, .int .u64 (sq : Nat), .int .u64 (ak : Nat), .int .u32 (wn : Nat), .int .u64 (dt : Nat)] := (hd 9 (by kernel_rfl)).2
          rw [d9]
          clear d9
          clear hd
          refine GH.st_call (by rfl) hb.below.size (by go_simp) ((HCD.out w' _ (HSr.out.gr hb)).mono ?_)
          rintro e w9 ⟨⟨v, rfl, hN⟩, hb9⟩
          exact ⟨_, rfl, hb9, (GH.optO_of hN)⟩
        | 11, _, hd =>
          simp only [GH.mkL, List.getD_cons_succ, List.getD_cons_zero]
          clear hd
          exact GH.st_loads _ [.int .u64 (k0 : Nat), .int .u64 (k1 : Nat)] (by rfl) rfl rfl (((KB.out.below hb.below KB.out.lt)).loads 0 _ (by rfl)) (by kernel_rfl) (by kernel_rfl)
        | 12, _, hd =>
          simp only [GH.mkL, List.getD_cons_succ, List.getD_cons_zero]
          clear hd
          exact GH.st_loads _ [.int .u16 (g.src : Int), .int .u16 (g.dst : Int), .int .u32 (g.seq : Int), .int .u32 (g.ack : Int), .int .u8 (g.flags : Int), .slice A1 n1 c1, .slice D m d] (by rfl) rfl rfl (((KS.out.below hb.below KS.out.lt)).loads 0 _ (by rfl)) (by kernel_rfl) (by kernel_rfl)
        | 13, _, hd =>
          simp only [GH.mkL, List.getD_cons_succ, List.getD_cons_zero]
          clear hd
          refine GH.st_eq (by rfl) ?_
          go_simp
          (try with_reducible rfl)
        | 14, _, hd =>
          simp only [GH.mkL, List.getD_cons_succ, List.getD_cons_zero]
          have d13 : S 13 = .pointer (some ⟨w.heap.size + 2, 15, none⟩) := (hd 13 (by kernel_rfl)).2
          rw [d13]
          clear d13
          clear hd
          exact GH.st_loads _ [.int .u8 (kd : Nat), .int .u32 (nm : Nat), .int .u8 (wi : Nat), .int .u8 (pa : Nat), .bool wb, .int .u64 (wt : Nat)] (by rfl) rfl rfl (((KX.out.below hb.below KX.out.lt)).loads 15 _ (by rfl)) (by kernel_rfl) (by kernel_rfl)
        | 15, _, hd =>
          simp only [GH.mkL, List.getD_cons_succ, List.getD_cons_zero]
          obtain ⟨A10, n10, c10, d10, O10⟩ := (hd 10 (by kernel_rfl)).2
          rw [d10]
          clear d10
          replace O10 := Lib.hid O10
          have d11 : S 11 = .agg #[.int .u64 (k0 : Nat), .int .u64 (k1 : Nat)] := (hd 11 (by kernel_rfl)).2
          rw [d11]
          clear d11
          have d12 : S 12 = .agg #[.int .u16 (g.src : Int), .int .u16 (g.dst : Int), .int .u32 (g.seq : Int), .int .u32 (g.ack : Int), .int .u8 (g.flags : Int), .slice A1 n1 c1, .slice D m d] := (hd 12 (by kernel_rfl)).2
          rw [d12]
          clear d12
          have d14 : S 14 = .agg #[.int .u8 (kd : Nat), .int .u32 (nm : Nat), .int .u8 (wi : Nat), .int .u8 (pa : Nat), .bool wb, .int .u64 (wt : Nat)] := (hd 14 (by kernel_rfl)).2
          rw [d14]
          clear d14
          clear hd
          refine GH.st_call (by rfl) hb.below.size (by go_simp) ((HCW.out w' _ (HSr.out.gr hb)).mono ?_)
          rintro e w9 ⟨⟨v, rfl, hN⟩, hb9⟩
          exact ⟨_, rfl, hb9, (GH.optO_of hN)⟩
        | 16, _, hd =>
          simp only [GH.mkL, List.getD_cons_succ, List.getD_cons_zero]
          obtain ⟨A5, n5, c5, d5, O5⟩ := (hd 5 (by kernel_rfl)).2
          rw [d5]
          clear d5
          replace O5 := Lib.hid O5
          obtain ⟨A10, n10, c10, d10, O10⟩ := (hd 10 (by kernel_rfl)).2
          rw [d10]
          clear d10
          replace O10 := Lib.hid O10
          obtain ⟨A15, n15, c15, d15, O15⟩ := (hd 15 (by kernel_rfl)).2
          rw [d15]
          clear d15
          replace O15 := Lib.hid O15
          clear hd
          refine ⟨fun K hK => ?_⟩
          go_wp2_with fail
          exact hK _ _ (GH.Gr.of ((Below.refl _ _).alloc (Nat.le_refl _) _) hb.below.size) (GH.os3_lit O5.out O10.out O15.out)
        | nx + 17, hjx, _ => omega
      intro S w' hb hG
      simp only [GH.mkL, List.drop_succ_cons, List.drop_zero]
      have d0 : S 0 = .slice A5 n5 c5 := hG 0 (by omega)
      rw [d0]
      clear d0
      obtain ⟨A16, n16, c16, o16, d16, l16, R16, O16, e16⟩ := hG 16 (by omega)
      rw [d16]
      clear d16
      replace R16 := Lib.hid R16
      replace O16 := Lib.hid O16
      replace e16 := Lib.hid e16
      replace l16 := Lib.hid l16
      clear hG
      have hb7 : Below wr.heap.size wr w' := hb.below
      have O7 := Lib.hid (OW.out.below hb7)
      have B7 := Lib.hid (BW.out.trans (hb7.mono BW.out.size))
      replace KB := Lib.hid (KB.out.below hb7 KB.out.lt)
      replace KS := Lib.hid (KS.out.below hb7 KS.out.lt)
      replace KX := Lib.hid (KX.out.below hb7 KX.out.lt)
      clear hb7 hb OW HCW HCD HSr
      generalize w' = w10 at *
      go_wp2_with (at_builtin; refine app sgsEl rfl (.tmp 75) (.tmp 91) rfl rfl (show w10.ownsRow w3.heap.size 45 2 (.slice A5 n5 c5) n5 (ocs (keptK lo)) from by have h := O7.out; unfold OO at h; rwa [hl5.out] at h) rfl R16.out (ocs_one _) (room_ge (by have := HL5.out; have := l16.out; simp only [List.length_cons, List.length_nil] at this; omega)) B7.out.size ?_)
      intro v8 w11 ho8 hg8 hb8
      have hlo3 : o16.length = n16 := by have := R16.out.1; rw [ocs_len] at this; omega
      have OF := Lib.hid (show OO w11 w3.heap.size v8 (keptK lo ++ o16) from by
        unfold OO
        rw [List.length_append, ocs_append, hl5.out, hlo3]
        exact ho8)
      have B11 := Lib.hid (B7.out.trans hb8)
      have OG := Lib.hid (show ∀ p ∈ o16, OwnB w11 0 p from fun p hp => OwnB.grown (O16.out p hp) (show w10.ownsRow w3.heap.size 45 2 (.slice A5 n5 c5) (keptK lo).length (ocs (keptK lo)) from O7.out) hg8)
      obtain ⟨A8, n8, c8, rfl, hc8, hm8, hl8, _⟩ := OF.out.out
      have HL := Lib.hid (OF.out.os2 fun p hp => by
        rcases List.mem_append.1 hp with h | h
        · exact (HO.out.into B11.out).bod p (List.mem_filter.1 h).1
        · exact (OG.out p h).rd)
      have HL8 := Lib.hid (show n8 ≤ 10000 from by
        have h1 := hl8.out
        have h2 := HL5.out
        have h3 := l16.out
        have h4 := hl5.out
        rw [List.length_append, hlo3] at h1
        simp only [List.length_cons, List.length_nil] at h3
        omega)
      have HO3 := Lib.hid (show osay (keptK lo ++ o16) = osay (keptK lo) ++ [(kd, wordB nm wi pa wb T1), (3, dataB f p sq ak wn T2), (kd, wordB nm wi pa wb T1)] from by unfold osay; rw [List.map_append]; exact congrArg _ e16.out)
      have hb8' : Below w3.heap.size w10 w11 := hb8
      replace KB := Lib.hid (KB.out.below hb8' KB3.out)
      replace KS := Lib.hid (KS.out.below hb8' KS3.out)
      replace KX := Lib.hid (KX.out.below hb8' KX3.out)
      replace HS := Lib.hid (HS.out.into B11.out)
      clear hb8' hb8 ho8 hg8 B7 O7 OF OG R16 O16 hlo3 HO HL5 hc8
      obtain ⟨s0, s1, s2, s3, s4, s5, s6⟩ := seg_cells KS.out
      go_wp2_with fail
      clear s0 s1 s2 s3 s4 s5 s6
      refine (of_any _ g A8 n8 c8 (keptK lo ++ o16) w11 HS.out HL.out HL8.out).mono ?_
      rintro e w12 ⟨⟨v12, rfl, hT⟩, hb12⟩
      have ht : { g with opts := osay (keptK lo ++ o16) } = backS g (osay (keptK lo)) kd (wordB nm wi pa wb T1) (dataB f p sq ak wn T2) := by unfold backS; rw [HO3.out]
      rw [ht] at hT
      have hsub : ∀ p ∈ osay (keptK lo), p ∈ g.opts := fun p hp => by
        rw [HOS.out]
        obtain ⟨q, hq, rfl⟩ := List.mem_map.1 hp
        exact List.mem_map.2 ⟨q, (List.mem_filter.1 hq).1, rfl⟩
      obtain ⟨tg, htg⟩ : ∃ t, t = backS g (osay (keptK lo)) kd (wordB nm wi pa wb T1) (dataB f p sq ak wn T2) := ⟨_, rfl⟩
      rw [← htg] at hT
      have HT := Lib.hid hT
      have HTB := Lib.hid (show tg.bd from by rw [htg]; exact backS_bd HG.out hsub HX.out.2.2.1 (wordB_byte HX.out.2.2.2.2.1 HX.out.2.2.2.2.2.1) (dataB_byte _ _ _ _ _ _))
      have HTM := Lib.hid (show tg.small from by rw [htg]; exact backS_small HM.out hsub (by unfold osay; rw [List.length_map]; have := HLE.out; omega) (wordB_len _ _ _ _ _) (dataB_len2 _ _ _ _ _ _))
      have HTO : Hid (∀ (f' p' : Bool) (sq' ak' wn' t' : Nat) (ok : Bool), OpenR k0 k1 tg f' p' sq' ak' wn' t' ok → f' = f ∧ p' = p ∧ sq' = sq ∧ ak' = ak ∧ wn' = wn ∧ ok = true) := Lib.hid (fun f' p' sq' ak' wn' t' ok h => by rw [htg] at h; exact back_openR HT2.out h0 h1 keptK_ok HK.out.1 HX.out.2.1.1 HX.out.2.1.2.1 HX.out.2.1.2.2.1 h)
      have HTW : Hid (∀ ws, Wds k0 k1 tg ws (keptW k0 k1 tg tg.opts) → ws = [⟨kd, nm, wi, pa, wb, T1⟩, ⟨kd, nm, wi, pa, wb, T1⟩]) := Lib.hid (fun ws h => by rw [htg] at h; exact back_kept HT1.out h0 h1 keptK_ok HK.out.1 HK.out.2 HX.out.2.2.2.1 HX.out.2.2.2.2.1 HX.out.2.2.2.2.2.1 h)
      have BT := Lib.hid (b1.out.trans ((B11.out.trans (hb12.mono B11.out.size)).mono b1.out.size))
      replace KB := Lib.hid (KB.out.below hb12 KB.out.lt)
      replace KX := Lib.hid (KX.out.below hb12 KX.out.lt)
      clear hT ht hsub htg hb12 HO3 HL HL8 HS KS B11 b1 HG HM HOS HGL e16 l16 HLE
      obtain ⟨A9, n9, c9, D9, m9, d9, l9, rfl, _⟩ := HT.out
      unfold segCs at *
      go_upto_region 11 with fail
      have hbA := (Below.refl w12.heap.size w12).alloc (Nat.le_refl _) (.cells #[.int .u16 (tg.src : Int), .int .u16 (tg.dst : Int), .int .u32 (tg.seq : Int), .int .u32 (tg.ack : Int), .int .u8 (tg.flags : Int), .slice A9 n9 c9, .slice D9 m9 d9] 30)
      have KT := Lib.hid (Blk.new w12 30 #[.int .u16 (tg.src : Int), .int .u16 (tg.dst : Int), .int .u32 (tg.seq : Int), .int .u32 (tg.ack : Int), .int .u8 (tg.flags : Int), .slice A9 n9 c9, .slice D9 m9 d9])
      replace KB := Lib.hid (KB.out.below hbA KB.out.lt)
      replace KX := Lib.hid (KX.out.below hbA KX.out.lt)
      replace HT := Lib.hid (HT.out.into hbA)
      replace BT := Lib.hid (BT.out.trans (hbA.mono BT.out.size))
      clear hbA
      obtain ⟨xt, hX⟩ : ∃ x, x = w12.heap.size := ⟨_, rfl⟩
      rw [← hX] at KT ⊢
      clear hX
      generalize w12.alloc (.cells #[.int .u16 (tg.src : Int), .int .u16 (tg.dst : Int), .int .u32 (tg.seq : Int), .int .u32 (tg.ack : Int), .int .u8 (tg.flags : Int), .slice A9 n9 c9, .slice D9 m9 d9] 30) = w13 at *
      obtain ⟨p0, p1⟩ := ptc2 KB.out
      obtain ⟨s0, s1, s2, s3, s4, s5, s6⟩ := seg_cells KT.out
      go_wp2_with fail
      clear p0 p1 s0 s1 s2 s3 s4 s5 s6
      refine (mopen_any k0 k1 _ tg w13 h0 h1 HT.out HTB.out HTM.out).mono ?_
      rintro e w14 ⟨⟨f', p', sq', ak', wn', t', ok, rfl, hR⟩, hb14⟩
      obtain ⟨e1, e2, e3, e4, e5, e6⟩ := HTO.out _ _ _ _ _ _ _ hR
      subst f' p' sq' ak' wn' ok
      clear hR HTO
      replace KB := Lib.hid (KB.out.below hb14 KB.out.lt)
      replace KX := Lib.hid (KX.out.below hb14 KX.out.lt)
      replace KT := Lib.hid (KT.out.below hb14 KT.out.lt)
      replace HT := Lib.hid (HT.out.into hb14)
      replace BT := Lib.hid (BT.out.trans (hb14.mono BT.out.size))
      clear hb14
      go_upto_region 12 with fail
      have hbA := (Below.refl w14.heap.size w14).alloc (Nat.le_refl _) (.cells #[.bool f, .bool p, .int .u64 (sq : Nat), .int .u64 (ak : Nat), .int .u32 (wn : Nat), .int .u64 (t' : Nat)] 38)
      have KD := Lib.hid (Blk.new w14 38 #[.bool f, .bool p, .int .u64 (sq : Nat), .int .u64 (ak : Nat), .int .u32 (wn : Nat), .int .u64 (t' : Nat)])
      replace KB := Lib.hid (KB.out.below hbA KB.out.lt)
      replace KX := Lib.hid (KX.out.below hbA KX.out.lt)
      replace KT := Lib.hid (KT.out.below hbA KT.out.lt)
      replace HT := Lib.hid (HT.out.into hbA)
      replace BT := Lib.hid (BT.out.trans (hbA.mono BT.out.size))
      clear hbA
      obtain ⟨xd, hX⟩ : ∃ x, x = w14.heap.size := ⟨_, rfl⟩
      rw [← hX] at KD ⊢
      clear hX
      generalize w14.alloc (.cells #[.bool f, .bool p, .int .u64 (sq : Nat), .int .u64 (ak : Nat), .int .u32 (wn : Nat), .int .u64 (t' : Nat)] 38) = w15 at *
      obtain ⟨p0, p1⟩ := ptc2 KB.out
      obtain ⟨s0, s1, s2, s3, s4, s5, s6⟩ := seg_cells KT.out
      go_wp2_with fail
      clear p0 p1 s0 s1 s2 s3 s4 s5 s6
      refine (mwords_any k0 k1 _ tg w15 h0 h1 HT.out HTB.out HTM.out).mono ?_
      rintro e w16 ⟨⟨v16, ws, rfl, hW, hwd⟩, hb16⟩
      obtain rfl := HTW.out ws hwd
      replace KX := Lib.hid (KX.out.below hb16 KX.out.lt)
      replace KD := Lib.hid (KD.out.below hb16 KD.out.lt)
      replace BT := Lib.hid (BT.out.trans (hb16.mono BT.out.size))
      clear hb16
      clear HTW hwd KB KT HT HTB HTM
      obtain ⟨A6, n6, c6, rfl, hc6, hl6, hR6⟩ := hW.out
      obtain rfl : 2 = n6 := hl6.out
      obtain ⟨ab, ao, rfl, hab, hcell⟩ := hR6.out.2 (by decide)
      have QC := Lib.hid hcell
      have HW16 := Lib.hid (show w.heap.size ≤ w16.heap.size from BT.out.size)
      have BQ := Lib.hid (Below.refl w16.heap.size w16)
      clear hW hcell hl6 hR6
      have y9 : w16.cell? ⟨w.heap.size + 2, 9, none⟩ = some (.bool f) := KX.out.cell 9
      have y10 : w16.cell? ⟨w.heap.size + 2, 10, none⟩ = some (.bool p) := KX.out.cell 10
      have y11 : w16.cell? ⟨w.heap.size + 2, 11, none⟩ = some (.int .u64 (sq : Nat)) := KX.out.cell 11
      have y12 : w16.cell? ⟨w.heap.size + 2, 12, none⟩ = some (.int .u64 (ak : Nat)) := KX.out.cell 12
      have y13 : w16.cell? ⟨w.heap.size + 2, 13, none⟩ = some (.int .u32 (wn : Nat)) := KX.out.cell 13
      have y14 : w16.cell? ⟨w.heap.size + 2, 14, none⟩ = some (.int .u64 (dt : Nat)) := KX.out.cell 14
      go_upto_region 14 with fail
      clear y9 y10 y11 y12 y13 y14
      have HDL := Lib.hid KD.out.lt
      have HXL := Lib.hid KX.out.lt
      have hbA := (Below.refl w16.heap.size w16).alloc (Nat.le_refl _) (.cells #[.bool f, .bool p, .int .u64 (sq : Nat), .int .u64 (ak : Nat), .int .u32 (wn : Nat), .int .u64 (dt : Nat)] 38)
      have KE := Lib.hid (Blk.new w16 38 #[.bool f, .bool p, .int .u64 (sq : Nat), .int .u64 (ak : Nat), .int .u32 (wn : Nat), .int .u64 (dt : Nat)])
      replace KX := Lib.hid (KX.out.below hbA KX.out.lt)
      replace KD := Lib.hid (KD.out.below hbA KD.out.lt)
      replace BT := Lib.hid (BT.out.trans (hbA.mono BT.out.size))
      replace BQ := Lib.hid (BQ.out.trans (hbA.mono BQ.out.size))
      clear hbA
      obtain ⟨xe, hX⟩ : ∃ x, x = w16.heap.size := ⟨_, rfl⟩
      rw [← hX] at KE ⊢
      have hne : xd ≠ xe := by have := HDL.out; omega
      have hne2 : w.heap.size + 2 ≠ xe := by have := HXL.out; omega
      have HXE := Lib.hid (show w16.heap.size ≤ xe from Nat.le_of_eq hX.symm)
      clear hX
      generalize w16.alloc (.cells #[.bool f, .bool p, .int .u64 (sq : Nat), .int .u64 (ak : Nat), .int .u32 (wn : Nat), .int .u64 (dt : Nat)] 38) = w17 at *
      obtain ⟨d0, d1, d2, d3, d4, d5⟩ := ptc6 KD.out
      obtain ⟨z0, z1, z2, z3, z4, z5⟩ := ptc6 KE.out
      have fe := KE.out.frozen 5
      go_upto_region 15 with fail
      clear d0 d1 d2 d3 d4 d5 z0 z1 z2 z3 z4 z5 fe
      have hs : Solo xe w17 (w17.setCell ⟨xe, 5, none⟩ (.int .u64 (t' : Nat))) := Solo.refl.setCell 5 _
      have KE2 : Hid (Blk (w17.setCell ⟨xe, 5, none⟩ (.int .u64 (t' : Nat))) xe 38 #[.bool f, .bool p, .int .u64 (sq : Nat), .int .u64 (ak : Nat), .int .u32 (wn : Nat), .int .u64 (t' : Nat)]) := Lib.hid (KE.out.set 5 _)
      replace KD := Lib.hid (hs.blk KD.out hne)
      replace KX := Lib.hid (hs.blk KX.out hne2)
      replace BQ := Lib.hid (BQ.out.trans (hs.1.mono HXE.out))
      replace BT := Lib.hid (BT.out.trans (hs.1.mono (Nat.le_trans (by have := BT.out.size; have := HW16.out; omega) HXE.out)))
      clear hs KE hne hne2 HDL HXL HXE
      generalize w17.setCell ⟨xe, 5, none⟩ (.int .u64 (t' : Nat)) = w18 at *
      obtain ⟨d0, d1, d2, d3, d4, d5⟩ := ptc6 KD.out
      obtain ⟨z0, z1, z2, z3, z4, z5⟩ := ptc6 KE2.out
      have hnD := neqOD f p sq ak wn t'
      go_upto_region 17 with fail
      clear d0 d1 d2 d3 d4 d5 z0 z1 z2 z3 z4 z5 hnD KD KE2
      have y15 : w18.cell? ⟨w.heap.size + 2, 15, none⟩ = some (.int .u8 (kd : Nat)) := KX.out.cell 15
      have y16 : w18.cell? ⟨w.heap.size + 2, 16, none⟩ = some (.int .u32 (nm : Nat)) := KX.out.cell 16
      have y17 : w18.cell? ⟨w.heap.size + 2, 17, none⟩ = some (.int .u8 (wi : Nat)) := KX.out.cell 17
      have y18 : w18.cell? ⟨w.heap.size + 2, 18, none⟩ = some (.int .u8 (pa : Nat)) := KX.out.cell 18
      have y19 : w18.cell? ⟨w.heap.size + 2, 19, none⟩ = some (.bool wb) := KX.out.cell 19
      have y20 : w18.cell? ⟨w.heap.size + 2, 20, none⟩ = some (.int .u64 (wt : Nat)) := KX.out.cell 20
      go_upto_region 18 with fail
      clear y15 y16 y17 y18 y19 y20
      have BQS := Lib.hid BQ.out.size
      have hbA := (Below.refl w18.heap.size w18).alloc (Nat.le_refl _) (.cells #[.int .u8 (kd : Nat), .int .u32 (nm : Nat), .int .u8 (wi : Nat), .int .u8 (pa : Nat), .bool wb, .int .u64 (wt : Nat)] 40)
      have KW := Lib.hid (Blk.new w18 40 #[.int .u8 (kd : Nat), .int .u32 (nm : Nat), .int .u8 (wi : Nat), .int .u8 (pa : Nat), .bool wb, .int .u64 (wt : Nat)])
      replace BT := Lib.hid (BT.out.trans (hbA.mono BT.out.size))
      replace BQ := Lib.hid (BQ.out.trans (hbA.mono BQ.out.size))
      clear hbA
      obtain ⟨xw, hX⟩ : ∃ x, x = w18.heap.size := ⟨_, rfl⟩
      rw [← hX] at KW ⊢
      have HXE := Lib.hid (show w16.heap.size ≤ xw from by rw [hX]; exact BQS.out)
      clear hX
      generalize w18.alloc (.cells #[.int .u8 (kd : Nat), .int .u32 (nm : Nat), .int .u8 (wi : Nat), .int .u8 (pa : Nat), .bool wb, .int .u64 (wt : Nat)] 40) = w19 at *
      have q11 : w19.cell? ⟨ab, ao + 5, none⟩ = some (.int .u64 (T1 : Nat)) := (BQ.out.cell (p := ⟨ab, ao + 5, none⟩) hab).trans (QC.out 5 (by decide))
      obtain ⟨z0, z1, z2, z3, z4, z5⟩ := ptc6 KW.out
      have fe := KW.out.frozen 5
      go_upto_region 19 with fail
      clear q11 z0 z1 z2 z3 z4 z5 fe
      have hs : Solo xw w19 (w19.setCell ⟨xw, 5, none⟩ (.int .u64 (T1 : Nat))) := Solo.refl.setCell 5 _
      have KW2 : Hid (Blk (w19.setCell ⟨xw, 5, none⟩ (.int .u64 (T1 : Nat))) xw 40 #[.int .u8 (kd : Nat), .int .u32 (nm : Nat), .int .u8 (wi : Nat), .int .u8 (pa : Nat), .bool wb, .int .u64 (T1 : Nat)]) := Lib.hid (KW.out.set 5 _)
      replace BQ := Lib.hid (BQ.out.trans (hs.1.mono HXE.out))
      replace BT := Lib.hid (BT.out.trans (hs.1.mono (Nat.le_trans HW16.out HXE.out)))
      clear hs KW HXE
      generalize w19.setCell ⟨xw, 5, none⟩ (.int .u64 (T1 : Nat)) = w20 at *
      have C0 : Hid (w20.cell? ⟨ab, ao + 0, none⟩ = some (.int .u8 (kd : Nat))) := Lib.hid ((BQ.out.cell (p := ⟨ab, ao + 0, none⟩) hab).trans (QC.out 0 (by decide)))
      have C1 : Hid (w20.cell? ⟨ab, ao + 1, none⟩ = some (.int .u32 (nm : Nat))) := Lib.hid ((BQ.out.cell (p := ⟨ab, ao + 1, none⟩) hab).trans (QC.out 1 (by decide)))
      have C2 : Hid (w20.cell? ⟨ab, ao + 2, none⟩ = some (.int .u8 (wi : Nat))) := Lib.hid ((BQ.out.cell (p := ⟨ab, ao + 2, none⟩) hab).trans (QC.out 2 (by decide)))
      have C3 : Hid (w20.cell? ⟨ab, ao + 3, none⟩ = some (.int .u8 (pa : Nat))) := Lib.hid ((BQ.out.cell (p := ⟨ab, ao + 3, none⟩) hab).trans (QC.out 3 (by decide)))
      have C4 : Hid (w20.cell? ⟨ab, ao + 4, none⟩ = some (.bool wb)) := Lib.hid ((BQ.out.cell (p := ⟨ab, ao + 4, none⟩) hab).trans (QC.out 4 (by decide)))
      have C5 : Hid (w20.cell? ⟨ab, ao + 5, none⟩ = some (.int .u64 (T1 : Nat))) := Lib.hid ((BQ.out.cell (p := ⟨ab, ao + 5, none⟩) hab).trans (QC.out 5 (by decide)))
      have C6 : Hid (w20.cell? ⟨ab, ao + 6, none⟩ = some (.int .u8 (kd : Nat))) := Lib.hid ((BQ.out.cell (p := ⟨ab, ao + 6, none⟩) hab).trans (QC.out 6 (by decide)))
      have C7 : Hid (w20.cell? ⟨ab, ao + 7, none⟩ = some (.int .u32 (nm : Nat))) := Lib.hid ((BQ.out.cell (p := ⟨ab, ao + 7, none⟩) hab).trans (QC.out 7 (by decide)))
      have C8 : Hid (w20.cell? ⟨ab, ao + 8, none⟩ = some (.int .u8 (wi : Nat))) := Lib.hid ((BQ.out.cell (p := ⟨ab, ao + 8, none⟩) hab).trans (QC.out 8 (by decide)))
      have C9 : Hid (w20.cell? ⟨ab, ao + 9, none⟩ = some (.int .u8 (pa : Nat))) := Lib.hid ((BQ.out.cell (p := ⟨ab, ao + 9, none⟩) hab).trans (QC.out 9 (by decide)))
      have C10 : Hid (w20.cell? ⟨ab, ao + 10, none⟩ = some (.bool wb)) := Lib.hid ((BQ.out.cell (p := ⟨ab, ao + 10, none⟩) hab).trans (QC.out 10 (by decide)))
      have C11 : Hid (w20.cell? ⟨ab, ao + 11, none⟩ = some (.int .u64 (T1 : Nat))) := Lib.hid ((BQ.out.cell (p := ⟨ab, ao + 11, none⟩) hab).trans (QC.out 11 (by decide)))
      have hab2 : ab < w20.heap.size := Nat.lt_of_lt_of_le hab BQ.out.size
      clear QC BQ
      refine GH.wp_ghl (M := false) 15 ((GH.SP.eq (.slice (some ⟨ab, ao, none⟩) 2 c6)) :: (GH.SP.eq (.pointer (some ⟨ab, ao, none⟩))) :: (GH.SP.eq (.agg #[.int .u8 (kd : Nat), .int .u32 (nm : Nat), .int .u8 (wi : Nat), .int .u8 (pa : Nat), .bool wb, .int .u64 (T1 : Nat)])) :: (GH.SP.eq (.agg #[.int .u8 (kd : Nat), .int .u32 (nm : Nat), .int .u8 (wi : Nat), .int .u8 (pa : Nat), .bool wb, .int .u64 (T1 : Nat)])) :: (GH.SP.eq (.bool true)) :: (GH.SP.eq (.bool true)) :: (GH.SP.eq (.slice (some ⟨ab, ao, none⟩) 2 c6)) :: (GH.SP.eq (.pointer (some ⟨ab, ao + 6, none⟩))) :: (GH.SP.eq (.agg #[.int .u8 (kd : Nat), .int .u32 (nm : Nat), .int .u8 (wi : Nat), .int .u8 (pa : Nat), .bool wb, .int .u64 (T1 : Nat)])) :: (GH.SP.eq (.agg #[.int .u8 (kd : Nat), .int .u32 (nm : Nat), .int .u8 (wi : Nat), .int .u8 (pa : Nat), .bool wb, .int .u64 (T1 : Nat)])) :: (GH.SP.eq (.bool true)) :: (GH.SP.eq (.bool true)) :: (GH.SP.eq (.bool true)) :: (GH.SP.eq (.bool true)) :: (GH.SP.eq (.bool true)) :: []) (none :: none :: none :: none :: none :: none :: none :: none :: none :: none :: none :: none :: none :: none :: none :: none :: none :: none :: none :: none :: none :: none :: none :: none :: none :: none :: none :: none :: none :: none :: none :: none :: none :: none :: none :: none :: none :: none :: none :: none :: none :: none :: none :: none :: none :: none :: none :: none :: none :: none :: none :: none :: none :: none :: none :: none :: none :: none :: none :: none :: none :: none :: none :: none :: none :: none :: none :: none :: none :: none :: none :: none :: none :: none :: none :: none :: none :: none :: none :: none :: none :: none :: none :: none :: none :: none :: none :: none :: none :: none :: none :: none :: none :: none :: none :: none :: none :: none :: none :: none :: none :: none :: none :: none :: none :: none :: none :: none :: none :: none :: none :: none :: none :: none :: none :: none :: none :: none :: none :: none :: none :: none :: none :: none :: none :: none :: none :: none :: none :: none :: none :: none :: none :: (some 0) :: (some 1) :: (some 2) :: (some 3) :: (some 4) :: (some 5) :: (some 6) :: (some 7) :: (some 8) :: (some 9) :: (some 10) :: (some 11) :: (some 12) :: (some 13) :: (some 14) :: []) [133, 134, 135, 136, 137, 138, 139, 140, 141, 142, 143, 144, 145, 146, 147] (by rfl) (by kernel_rfl) (by kernel_rfl) ?_ ?_ ?_
      · intro S jx v hjx
        match jx, hjx with
        | 0, _ => rfl
        | 1, _ => rfl
        | 2, _ => rfl
        | 3, _ => rfl
        | 4, _ => rfl
        | 5, _ => rfl
        | 6, _ => rfl
        | 7, _ => rfl
        | 8, _ => rfl
        | 9, _ => rfl
        | 10, _ => rfl
        | 11, _ => rfl
        | 12, _ => rfl
        | 13, _ => rfl
        | 14, _ => rfl
        | nx + 15, hjx => omega
      · intro jx hjx S w' hb hd
        match jx, hjx, hd with
        | 0, _, hd =>
          simp only [GH.mkL, List.getD_cons_succ, List.getD_cons_zero]
          clear hd
          refine GH.st_eq (by rfl) ?_
          go_simp
          (try with_reducible rfl)
        | 1, _, hd =>
          simp only [GH.mkL, List.getD_cons_succ, List.getD_cons_zero]
          have d0 : S 0 = .slice (some ⟨ab, ao, none⟩) 2 c6 := (hd 0 (by kernel_rfl)).2
          rw [d0]
          clear d0
          clear hd
          refine GH.st_eq (by rfl) ?_
          go_simp
          (try with_reducible rfl)
        | 2, _, hd =>
          simp only [GH.mkL, List.getD_cons_succ, List.getD_cons_zero]
          have d1 : S 1 = .pointer (some ⟨ab, ao, none⟩) := (hd 1 (by kernel_rfl)).2
          rw [d1]
          clear d1
          clear hd
          exact GH.st_loads _ [.int .u8 (kd : Nat), .int .u32 (nm : Nat), .int .u8 (wi : Nat), .int .u8 (pa : Nat), .bool wb, .int .u64 (T1 : Nat)] (by rfl) rfl rfl (cells_six (hb.at_ hab2 C0.out) (hb.at_ hab2 C1.out) (hb.at_ hab2 C2.out) (hb.at_ hab2 C3.out) (hb.at_ hab2 C4.out) (hb.at_ hab2 C5.out)) (by kernel_rfl) (by kernel_rfl)
        | 3, _, hd =>
          simp only [GH.mkL, List.getD_cons_succ, List.getD_cons_zero]
          clear hd
          exact GH.st_loads _ [.int .u8 (kd : Nat), .int .u32 (nm : Nat), .int .u8 (wi : Nat), .int .u8 (pa : Nat), .bool wb, .int .u64 (T1 : Nat)] (by rfl) rfl rfl (((KW2.out.below hb.below KW2.out.lt)).loads 0 _ (by rfl)) (by kernel_rfl) (by kernel_rfl)
        | 4, _, hd =>
          simp only [GH.mkL, List.getD_cons_succ, List.getD_cons_zero]
          have d2 : S 2 = .agg #[.int .u8 (kd : Nat), .int .u32 (nm : Nat), .int .u8 (wi : Nat), .int .u8 (pa : Nat), .bool wb, .int .u64 (T1 : Nat)] := (hd 2 (by kernel_rfl)).2
          rw [d2]
          clear d2
          have d3 : S 3 = .agg #[.int .u8 (kd : Nat), .int .u32 (nm : Nat), .int .u8 (wi : Nat), .int .u8 (pa : Nat), .bool wb, .int .u64 (T1 : Nat)] := (hd 3 (by kernel_rfl)).2
          rw [d3]
          clear d3
          clear hd
          refine GH.st_eq (by rfl) ?_
          have he := eqlOW kd nm wi pa wb T1
          go_simp
          (try simp [he])
          (try with_reducible rfl)
        | 5, _, hd =>
          simp only [GH.mkL, List.getD_cons_succ, List.getD_cons_zero]
          have d4 : S 4 = .bool true := (hd 4 (by kernel_rfl)).2
          rw [d4]
          clear d4
          clear hd
          refine GH.st_eq (by rfl) ?_
          go_simp
          (try with_reducible rfl)
        | 6, _, hd =>
          simp only [GH.mkL, List.getD_cons_succ, List.getD_cons_zero]
          have d5 : S 5 = .bool true := (hd 5 (by kernel_rfl)).2
          rw [d5]
          clear d5
          clear hd
          refine GH.st_eq (by rfl) ?_
          go_simp
          (try with_reducible rfl)
        | 7, _, hd =>
          simp only [GH.mkL, List.getD_cons_succ, List.getD_cons_zero]
          have d5 : S 5 = .bool true := (hd 5 (by kernel_rfl)).2
          rw [d5]
          clear d5
          have d6 : S 6 = .slice (some ⟨ab, ao, none⟩) 2 c6 := (hd 6 (by kernel_rfl)).2
          rw [d6]
          clear d6
          clear hd
          refine GH.st_eq (by rfl) ?_
          go_simp
          (try with_reducible rfl)
        | 8, _, hd =>
          simp only [GH.mkL, List.getD_cons_succ, List.getD_cons_zero]
          have d5 : S 5 = .bool true := (hd 5 (by kernel_rfl)).2
          rw [d5]
          clear d5
          have d7 : S 7 = .pointer (some ⟨ab, ao + 6, none⟩) := (hd 7 (by kernel_rfl)).2
          rw [d7]
          clear d7
          clear hd
          exact GH.st_loads _ [.int .u8 (kd : Nat), .int .u32 (nm : Nat), .int .u8 (wi : Nat), .int .u8 (pa : Nat), .bool wb, .int .u64 (T1 : Nat)] (by rfl) rfl rfl (cells_six (hb.at_ hab2 C6.out) (hb.at_ hab2 C7.out) (hb.at_ hab2 C8.out) (hb.at_ hab2 C9.out) (hb.at_ hab2 C10.out) (hb.at_ hab2 C11.out)) (by kernel_rfl) (by kernel_rfl)
        | 9, _, hd =>
          simp only [GH.mkL, List.getD_cons_succ, List.getD_cons_zero]
          have d5 : S 5 = .bool true := (hd 5 (by kernel_rfl)).2
          rw [d5]
          clear d5
          clear hd
          exact GH.st_loads _ [.int .u8 (kd : Nat), .int .u32 (nm : Nat), .int .u8 (wi : Nat), .int .u8 (pa : Nat), .bool wb, .int .u64 (T1 : Nat)] (by rfl) rfl rfl (((KW2.out.below hb.below KW2.out.lt)).loads 0 _ (by rfl)) (by kernel_rfl) (by kernel_rfl)
        | 10, _, hd =>
          simp only [GH.mkL, List.getD_cons_succ, List.getD_cons_zero]
          have d5 : S 5 = .bool true := (hd 5 (by kernel_rfl)).2
          rw [d5]
          clear d5
          have d8 : S 8 = .agg #[.int .u8 (kd : Nat), .int .u32 (nm : Nat), .int .u8 (wi : Nat), .int .u8 (pa : Nat), .bool wb, .int .u64 (T1 : Nat)] := (hd 8 (by kernel_rfl)).2
          rw [d8]
          clear d8
          have d9 : S 9 = .agg #[.int .u8 (kd : Nat), .int .u32 (nm : Nat), .int .u8 (wi : Nat), .int .u8 (pa : Nat), .bool wb, .int .u64 (T1 : Nat)] := (hd 9 (by kernel_rfl)).2
          rw [d9]
          clear d9
          clear hd
          refine GH.st_eq (by rfl) ?_
          have he := eqlOW kd nm wi pa wb T1
          go_simp
          (try simp [he])
          (try with_reducible rfl)
        | 11, _, hd =>
          simp only [GH.mkL, List.getD_cons_succ, List.getD_cons_zero]
          have d5 : S 5 = .bool true := (hd 5 (by kernel_rfl)).2
          rw [d5]
          clear d5
          have d10 : S 10 = .bool true := (hd 10 (by kernel_rfl)).2
          rw [d10]
          clear d10
          clear hd
          refine GH.st_eq (by rfl) ?_
          go_simp
          (try with_reducible rfl)
        | 12, _, hd =>
          simp only [GH.mkL, List.getD_cons_succ, List.getD_cons_zero]
          have d5 : S 5 = .bool true := (hd 5 (by kernel_rfl)).2
          rw [d5]
          clear d5
          have d11 : S 11 = .bool true := (hd 11 (by kernel_rfl)).2
          rw [d11]
          clear d11
          clear hd
          refine GH.st_eq (by rfl) ?_
          go_simp
          (try with_reducible rfl)
        | 13, _, hd =>
          simp only [GH.mkL, List.getD_cons_succ, List.getD_cons_zero]
          have d12 : S 12 = .bool true := (hd 12 (by kernel_rfl)).2
          rw [d12]
          clear d12
          clear hd
          refine GH.st_call (by rfl) hb.below.size (by go_simp) ((alive10_any w').mono ?_)
          rintro e w9 ⟨rfl, hb9⟩
          exact ⟨_, rfl, hb9, rfl⟩
        | 14, _, hd =>
          simp only [GH.mkL, List.getD_cons_succ, List.getD_cons_zero]
          have d12 : S 12 = .bool true := (hd 12 (by kernel_rfl)).2
          rw [d12]
          clear d12
          have d13 : S 13 = .bool true := (hd 13 (by kernel_rfl)).2
          rw [d13]
          clear d13
          clear hd
          refine GH.st_eq (by rfl) ?_
          go_simp
          (try with_reducible rfl)
        | nx + 15, hjx, _ => omega
      intro S w' hb hG
      simp only [GH.mkL, List.drop_succ_cons, List.drop_zero]
      have d14 : S 14 = .bool true := hG 14 (by omega)
      rw [d14]
      clear d14
      clear hG
      have BF := Lib.hid (BT.out.trans (hb.below.mono BT.out.size))
      clear hb
      go_wp2_with fail
      go_ret
      exact ⟨rfl, BF.out⟩
end Go.Proofs.Ytbiimgfocgbdaaa
