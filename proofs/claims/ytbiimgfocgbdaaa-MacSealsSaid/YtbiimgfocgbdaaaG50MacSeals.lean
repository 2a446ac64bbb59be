/- Layer 10: the law MacSeals answers true, and nothing that was there has turned. -/
import Derived.Test.YtbiimgfocgbdaaaG46MacSeals
import Derived.Test.YtbiimgfocgbdaaaG32MacSeals
import Derived.Test.YtbiimgfocgbdaaaG45MacSeals
import Derived.Test.YtbiimgfocgbdaaaG48MacSeals
import Derived.Test.YtbiimgfocgbdaaaG49MacSeals
import Derived.Test.YtbiimgfocgbdaaaG12MacSeals
import Derived.Deep.Cut

namespace Go.Proofs.Ytbiimgfocgbdaaa
open Go.RowKit
set_option linter.unusedVariables false
set_option linter.unusedSimpArgs false
set_option maxRecDepth 20000 in
set_option maxHeartbeats 4000000 in
theorem is_same (kd n c m d : Nat) (A B : Option Addr) (l : List Nat) (w : World) (h1 : Rd w w.heap.size 1 A n (ns .u8 l)) (h2 : Rd w w.heap.size 1 B m (ns .u8 l)) :
    Calls Try.prog 21 #[.agg #[.int .u8 (kd : Nat), .slice A n c], .int .u8 (kd : Nat), .slice B m d] w fun e w' => e = .returned (.bool true) ∧ Below w.heap.size w w' := by
  have b1 := Lib.hid ((Below.refl w.heap.size w).alloc (Nat.le_refl _) (.cells #[.int .u8 (kd : Nat), .slice A n c] 45))
  have H1 := Lib.hid (h1.into b1.out)
  have H2 := Lib.hid (h2.into b1.out)
  clear h1 h2
  go_enter Try.func21, Try.ntmps21
  go_wp2_with (first | refine wpList_conv Try.underlying28 Try.underlying5 Try.underlying9 rfl _ rfl rfl H1.out ?_ | refine wpList_conv Try.underlying28 Try.underlying5 Try.underlying9 rfl _ rfl rfl H2.out ?_)
  go_ret
  exact ⟨rfl, b1.out⟩
def joinP (tk nc id : Nat) (bk : Bool) : List Nat := be tk 4 ++ (be nc 4 ++ [id, bitN bk])
theorem joinP_eq (tk nc id : Nat) (bk : Bool) (t : Nat) : joinB tk nc id bk true t = joinP tk nc id bk ++ be t 8 := by simp [joinB, joinP, tagB]
def keyP (k : Nat) : List Nat := be k 8
theorem keyP_eq (k t : Nat) : keyB k t true = keyP k ++ be t 8 := rfl
theorem pre_byte {P : List Nat} {t : Nat} (h : ∀ x ∈ P ++ be t 8, x < 256) : ∀ x ∈ P, x < 256 := fun x hx => h x (List.mem_append_left _ hx)
set_option maxRecDepth 20000 in
set_option maxHeartbeats 4000000 in
theorem rsealed_row (k0 k1 : Nat) (v : Value) (g : Sg) (P : List Nat) (t t2 kd n c : Nat) (A : Option Addr) (w : World) (h0 : k0 < 18446744073709551616) (h1 : k1 < 18446744073709551616) (hs : SegV w v g) (hg : g.bd) (hd : g.data.length ≤ 10000) (hr : Rd w w.heap.size 1 A n (ns .u8 (P ++ be t 8))) (hnc : n ≤ c) (hP : P.length ≤ 1000) (hb : ∀ x ∈ P, x < 256) (hkd : kd < 256) :
    Calls Try.prog 16 #[.agg #[.int .u64 (k0 : Nat), .int .u64 (k1 : Nat)], v, .int .u8 (kd : Nat), .slice A n c] w fun e w' => (∃ v', e = .returned v' ∧ Nats w' 5 .u8 w.heap.size v' (P ++ be (tagN k0 k1 g kd (P ++ be t2 8)) 8)) ∧ Below w.heap.size w w' := by
  have hn := hr.natLen
  rw [List.length_append, be_len] at hn
  refine (rsealed_any k0 k1 v g A n c kd (P ++ be t 8) w h0 h1 ⟨hs, hg, hr, hnc, by omega, hkd, hd, fun x hx => by
    rcases List.mem_append.1 hx with h | h
    · exact hb x h
    · exact be_byte 8 t x h⟩ (by omega) (tagN_lt k0 k1 g kd _ h0 h1)).mono ?_
  rintro e w' ⟨v', rfl, hN, hb'⟩
  rw [show (P ++ be t 8).take (n - 8) = P from by rw [show n - 8 = P.length by omega, List.take_left], tag_same k0 k1 g g kd t t2 P rfl rfl] at hN
  exact ⟨⟨v', rfl, hN⟩, hb'⟩
set_option maxRecDepth 20000 in
set_option maxHeartbeats 4000000 in
theorem macSeals_walk (k0 k1 : Nat) (v : Value) (g : Sg) (x : OA) (w : World) (h0 : k0 < 18446744073709551616) (h1 : k1 < 18446744073709551616) (hv : SegV w v g) (hg : g.bd) (hx : x.bd) :
    Calls Try.prog 3 #[.agg #[.int .u64 (k0 : Nat), .int .u64 (k1 : Nat)], v, .agg x.cs] w fun e w' => e = .returned (.bool true) ∧ Below w.heap.size w w' := by
  have HS := Lib.hid hv
  obtain ⟨A1, n1, c1, D, m, d, l1, rfl, hO, ho, hD, hmd, hdm⟩ := hv
  have HO := Lib.hid hO
  have HOS := Lib.hid ho
  have HG := Lib.hid hg
  obtain ⟨kk, ka, kt, tk, nc, id, bk, ja, jt, f, p, sq, ak, wn, dt, kd, nm, wi, pa, wb, wt⟩ := x
  obtain ⟨x1, x2, x3, x4, x5, x6, x7, x8, x9, x10, x11, x12, x13, x14, x15⟩ := hx
  have HX := Lib.hid (show (q64 kk ∧ q64 kt ∧ q32 tk ∧ q32 nc ∧ id < 256 ∧ q64 jt) ∧ (q64 sq ∧ q64 ak ∧ q32 wn ∧ q64 dt) ∧ (kd < 256 ∧ q32 nm ∧ wi < 256 ∧ pa < 256 ∧ q64 wt) from ⟨⟨x1, x2, x3, x4, x5, x6⟩, ⟨x7, x8, x9, x10⟩, ⟨x11, x12, x13, x14, x15⟩⟩)
  clear hO ho hD hdm hg x1 x2 x3 x4 x5 x6 x7 x8 x9 x10 x11 x12 x13 x14 x15
  unfold segCs OA.cs at *
  dsimp only at *
  go_enter Try.func3, Try.ntmps3
  go_wp2_with fail
  have hk0 : Hid (Blk (w.alloc (.cells #[.int .u64 (k0 : Nat), .int .u64 (k1 : Nat)] 24)) (w.heap.size) 24 #[.int .u64 (k0 : Nat), .int .u64 (k1 : Nat)]) := Lib.hid ((Blk.new w 24 #[.int .u64 (k0 : Nat), .int .u64 (k1 : Nat)]))
  replace hk0 : Hid (Blk ((w.alloc (.cells #[.int .u64 (k0 : Nat), .int .u64 (k1 : Nat)] 24)).alloc (.cells #[.int .u16 (g.src : Int), .int .u16 (g.dst : Int), .int .u32 (g.seq : Int), .int .u32 (g.ack : Int), .int .u8 (g.flags : Int), .slice A1 n1 c1, .slice D m d] 30)) (w.heap.size) 24 #[.int .u64 (k0 : Nat), .int .u64 (k1 : Nat)]) := Lib.hid (hk0.out.alloc _)
  replace hk0 : Hid (Blk (((w.alloc (.cells #[.int .u64 (k0 : Nat), .int .u64 (k1 : Nat)] 24)).alloc (.cells #[.int .u16 (g.src : Int), .int .u16 (g.dst : Int), .int .u32 (g.seq : Int), .int .u32 (g.ack : Int), .int .u8 (g.flags : Int), .slice A1 n1 c1, .slice D m d] 30)).alloc (.cells #[.int .u64 (kk : Nat), .bool ka, .int .u64 (kt : Nat), .int .u32 (tk : Nat), .int .u32 (nc : Nat), .int .u8 (id : Nat), .bool bk, .bool ja, .int .u64 (jt : Nat), .bool f, .bool p, .int .u64 (sq : Nat), .int .u64 (ak : Nat), .int .u32 (wn : Nat), .int .u64 (dt : Nat), .int .u8 (kd : Nat), .int .u32 (nm : Nat), .int .u8 (wi : Nat), .int .u8 (pa : Nat), .bool wb, .int .u64 (wt : Nat)] 42)) (w.heap.size) 24 #[.int .u64 (k0 : Nat), .int .u64 (k1 : Nat)]) := Lib.hid (hk0.out.alloc _)
  have hk1 : Hid (Blk ((w.alloc (.cells #[.int .u64 (k0 : Nat), .int .u64 (k1 : Nat)] 24)).alloc (.cells #[.int .u16 (g.src : Int), .int .u16 (g.dst : Int), .int .u32 (g.seq : Int), .int .u32 (g.ack : Int), .int .u8 (g.flags : Int), .slice A1 n1 c1, .slice D m d] 30)) (w.heap.size + 1) 30 #[.int .u16 (g.src : Int), .int .u16 (g.dst : Int), .int .u32 (g.seq : Int), .int .u32 (g.ack : Int), .int .u8 (g.flags : Int), .slice A1 n1 c1, .slice D m d]) := Lib.hid ((Blk.new (w.alloc (.cells #[.int .u64 (k0 : Nat), .int .u64 (k1 : Nat)] 24)) 30 #[.int .u16 (g.src : Int), .int .u16 (g.dst : Int), .int .u32 (g.seq : Int), .int .u32 (g.ack : Int), .int .u8 (g.flags : Int), .slice A1 n1 c1, .slice D m d]) |> fun h => by simpa using h)
  replace hk1 : Hid (Blk (((w.alloc (.cells #[.int .u64 (k0 : Nat), .int .u64 (k1 : Nat)] 24)).alloc (.cells #[.int .u16 (g.src : Int), .int .u16 (g.dst : Int), .int .u32 (g.seq : Int), .int .u32 (g.ack : Int), .int .u8 (g.flags : Int), .slice A1 n1 c1, .slice D m d] 30)).alloc (.cells #[.int .u64 (kk : Nat), .bool ka, .int .u64 (kt : Nat), .int .u32 (tk : Nat), .int .u32 (nc : Nat), .int .u8 (id : Nat), .bool bk, .bool ja, .int .u64 (jt : Nat), .bool f, .bool p, .int .u64 (sq : Nat), .int .u64 (ak : Nat), .int .u32 (wn : Nat), .int .u64 (dt : Nat), .int .u8 (kd : Nat), .int .u32 (nm : Nat), .int .u8 (wi : Nat), .int .u8 (pa : Nat), .bool wb, .int .u64 (wt : Nat)] 42)) (w.heap.size + 1) 30 #[.int .u16 (g.src : Int), .int .u16 (g.dst : Int), .int .u32 (g.seq : Int), .int .u32 (g.ack : Int), .int .u8 (g.flags : Int), .slice A1 n1 c1, .slice D m d]) := Lib.hid (hk1.out.alloc _)
  have hk2 : Hid (Blk (((w.alloc (.cells #[.int .u64 (k0 : Nat), .int .u64 (k1 : Nat)] 24)).alloc (.cells #[.int .u16 (g.src : Int), .int .u16 (g.dst : Int), .int .u32 (g.seq : Int), .int .u32 (g.ack : Int), .int .u8 (g.flags : Int), .slice A1 n1 c1, .slice D m d] 30)).alloc (.cells #[.int .u64 (kk : Nat), .bool ka, .int .u64 (kt : Nat), .int .u32 (tk : Nat), .int .u32 (nc : Nat), .int .u8 (id : Nat), .bool bk, .bool ja, .int .u64 (jt : Nat), .bool f, .bool p, .int .u64 (sq : Nat), .int .u64 (ak : Nat), .int .u32 (wn : Nat), .int .u64 (dt : Nat), .int .u8 (kd : Nat), .int .u32 (nm : Nat), .int .u8 (wi : Nat), .int .u8 (pa : Nat), .bool wb, .int .u64 (wt : Nat)] 42)) (w.heap.size + 2) 42 #[.int .u64 (kk : Nat), .bool ka, .int .u64 (kt : Nat), .int .u32 (tk : Nat), .int .u32 (nc : Nat), .int .u8 (id : Nat), .bool bk, .bool ja, .int .u64 (jt : Nat), .bool f, .bool p, .int .u64 (sq : Nat), .int .u64 (ak : Nat), .int .u32 (wn : Nat), .int .u64 (dt : Nat), .int .u8 (kd : Nat), .int .u32 (nm : Nat), .int .u8 (wi : Nat), .int .u8 (pa : Nat), .bool wb, .int .u64 (wt : Nat)]) := Lib.hid ((Blk.new ((w.alloc (.cells #[.int .u64 (k0 : Nat), .int .u64 (k1 : Nat)] 24)).alloc (.cells #[.int .u16 (g.src : Int), .int .u16 (g.dst : Int), .int .u32 (g.seq : Int), .int .u32 (g.ack : Int), .int .u8 (g.flags : Int), .slice A1 n1 c1, .slice D m d] 30)) 42 #[.int .u64 (kk : Nat), .bool ka, .int .u64 (kt : Nat), .int .u32 (tk : Nat), .int .u32 (nc : Nat), .int .u8 (id : Nat), .bool bk, .bool ja, .int .u64 (jt : Nat), .bool f, .bool p, .int .u64 (sq : Nat), .int .u64 (ak : Nat), .int .u32 (wn : Nat), .int .u64 (dt : Nat), .int .u8 (kd : Nat), .int .u32 (nm : Nat), .int .u8 (wi : Nat), .int .u8 (pa : Nat), .bool wb, .int .u64 (wt : Nat)]) |> fun h => by simpa using h)
  have b1 : Hid (Below w.heap.size w (((w.alloc (.cells #[.int .u64 (k0 : Nat), .int .u64 (k1 : Nat)] 24)).alloc (.cells #[.int .u16 (g.src : Int), .int .u16 (g.dst : Int), .int .u32 (g.seq : Int), .int .u32 (g.ack : Int), .int .u8 (g.flags : Int), .slice A1 n1 c1, .slice D m d] 30)).alloc (.cells #[.int .u64 (kk : Nat), .bool ka, .int .u64 (kt : Nat), .int .u32 (tk : Nat), .int .u32 (nc : Nat), .int .u8 (id : Nat), .bool bk, .bool ja, .int .u64 (jt : Nat), .bool f, .bool p, .int .u64 (sq : Nat), .int .u64 (ak : Nat), .int .u32 (wn : Nat), .int .u64 (dt : Nat), .int .u8 (kd : Nat), .int .u32 (nm : Nat), .int .u8 (wi : Nat), .int .u8 (pa : Nat), .bool wb, .int .u64 (wt : Nat)] 42))) := Lib.hid ((((Below.refl w.heap.size w).alloc (Nat.le_refl _) (.cells #[.int .u64 (k0 : Nat), .int .u64 (k1 : Nat)] 24)).alloc (by simp <;> omega) (.cells #[.int .u16 (g.src : Int), .int .u16 (g.dst : Int), .int .u32 (g.seq : Int), .int .u32 (g.ack : Int), .int .u8 (g.flags : Int), .slice A1 n1 c1, .slice D m d] 30)).alloc (by simp <;> omega) (.cells #[.int .u64 (kk : Nat), .bool ka, .int .u64 (kt : Nat), .int .u32 (tk : Nat), .int .u32 (nc : Nat), .int .u8 (id : Nat), .bool bk, .bool ja, .int .u64 (jt : Nat), .bool f, .bool p, .int .u64 (sq : Nat), .int .u64 (ak : Nat), .int .u32 (wn : Nat), .int .u64 (dt : Nat), .int .u8 (kd : Nat), .int .u32 (nm : Nat), .int .u8 (wi : Nat), .int .u8 (pa : Nat), .bool wb, .int .u64 (wt : Nat)] 42))
  have hz : (((w.alloc (.cells #[.int .u64 (k0 : Nat), .int .u64 (k1 : Nat)] 24)).alloc (.cells #[.int .u16 (g.src : Int), .int .u16 (g.dst : Int), .int .u32 (g.seq : Int), .int .u32 (g.ack : Int), .int .u8 (g.flags : Int), .slice A1 n1 c1, .slice D m d] 30)).alloc (.cells #[.int .u64 (kk : Nat), .bool ka, .int .u64 (kt : Nat), .int .u32 (tk : Nat), .int .u32 (nc : Nat), .int .u8 (id : Nat), .bool bk, .bool ja, .int .u64 (jt : Nat), .bool f, .bool p, .int .u64 (sq : Nat), .int .u64 (ak : Nat), .int .u32 (wn : Nat), .int .u64 (dt : Nat), .int .u8 (kd : Nat), .int .u32 (nm : Nat), .int .u8 (wi : Nat), .int .u8 (pa : Nat), .bool wb, .int .u64 (wt : Nat)] 42)).heap.size = w.heap.size + 3 := by simp
  generalize (((w.alloc (.cells #[.int .u64 (k0 : Nat), .int .u64 (k1 : Nat)] 24)).alloc (.cells #[.int .u16 (g.src : Int), .int .u16 (g.dst : Int), .int .u32 (g.seq : Int), .int .u32 (g.ack : Int), .int .u8 (g.flags : Int), .slice A1 n1 c1, .slice D m d] 30)).alloc (.cells #[.int .u64 (kk : Nat), .bool ka, .int .u64 (kt : Nat), .int .u32 (tk : Nat), .int .u32 (nc : Nat), .int .u8 (id : Nat), .bool bk, .bool ja, .int .u64 (jt : Nat), .bool f, .bool p, .int .u64 (sq : Nat), .int .u64 (ak : Nat), .int .u32 (wn : Nat), .int .u64 (dt : Nat), .int .u8 (kd : Nat), .int .u32 (nm : Nat), .int .u8 (wi : Nat), .int .u8 (pa : Nat), .bool wb, .int .u64 (wt : Nat)] 42)) = w2 at hk0 hk1 hk2 b1 hz ⊢
  have HZ := Lib.hid hz
  clear hz
  replace HS := Lib.hid (HS.out.into b1.out)
  replace HO := Lib.hid (HO.out.into b1.out)
  have KB := hk0
  have KS := hk1
  have KX := hk2
  clear hk0 hk1 hk2 HZ
  refine (great_any _ g w2 HS.out).mono ?_
  rintro e w3 ⟨rfl, hb3⟩
  have bh := hb3
  clear hb3
  replace KB := Lib.hid (KB.out.below bh KB.out.lt)
  replace KS := Lib.hid (KS.out.below bh KS.out.lt)
  replace KX := Lib.hid (KX.out.below bh KX.out.lt)
  replace HS := Lib.hid (HS.out.into bh)
  replace HO := Lib.hid (HO.out.into bh)
  replace b1 := Lib.hid (b1.out.trans (bh.mono b1.out.size))
  clear bh
  cases hgr : greatS g with
  | true =>
    clear hgr
    go_wp2_with fail
    go_ret
    exact ⟨rfl, b1.out⟩
  | false =>
  obtain ⟨hsm, hq1, hq2, hq3⟩ := greatS_small hgr
  have HM := Lib.hid hsm
  have HQ3 := Lib.hid hq3
  clear hgr hsm hq3
  obtain ⟨lo, hlo⟩ : ∃ lo, lo = dataB f p sq ak wn dt := ⟨_, rfl⟩
  obtain ⟨tg, htg⟩ : ∃ tg, tg = tagN k0 k1 g 3 lo := ⟨_, rfl⟩
  obtain ⟨rq, hrq⟩ : ∃ b : Bool, b = decide (dt = tg) := ⟨_, rfl⟩
  have y9 : w3.cell? ⟨w.heap.size + 2, 9, none⟩ = some (.bool f) := by rw [KX.out.cell]; rfl
  have y10 : w3.cell? ⟨w.heap.size + 2, 10, none⟩ = some (.bool p) := by rw [KX.out.cell]; rfl
  have y11 : w3.cell? ⟨w.heap.size + 2, 11, none⟩ = some (.int .u64 (sq : Nat)) := by rw [KX.out.cell]; rfl
  have y12 : w3.cell? ⟨w.heap.size + 2, 12, none⟩ = some (.int .u64 (ak : Nat)) := by rw [KX.out.cell]; rfl
  have y13 : w3.cell? ⟨w.heap.size + 2, 13, none⟩ = some (.int .u32 (wn : Nat)) := by rw [KX.out.cell]; rfl
  have y14 : w3.cell? ⟨w.heap.size + 2, 14, none⟩ = some (.int .u64 (dt : Nat)) := by rw [KX.out.cell]; rfl
  have HLO := Lib.hid hlo
  have HTG := Lib.hid htg
  have HRQ := Lib.hid hrq
  have hdo := Lib.hid (dataOpt_any f p sq ak wn dt w3 HX.out.2.1.1 HX.out.2.1.2.1 HX.out.2.1.2.2.1 HX.out.2.1.2.2.2)
  rw [← hlo] at hdo
  clear hlo htg hrq
  go_wp2_with fail
  refine hdo.out.mono ?_
  rintro e w4 ⟨⟨v4, rfl, hN⟩, hb4⟩
  have bh := hb4
  clear hb4 hdo y9 y10 y11 y12 y13 y14
  replace KB := Lib.hid (KB.out.below bh KB.out.lt)
  replace KS := Lib.hid (KS.out.below bh KS.out.lt)
  replace KX := Lib.hid (KX.out.below bh KX.out.lt)
  replace HS := Lib.hid (HS.out.into bh)
  replace HO := Lib.hid (HO.out.into bh)
  replace b1 := Lib.hid (b1.out.trans (bh.mono b1.out.size))
  clear bh
  obtain ⟨A3, n3, c3, rfl, hc3, hl3, hR3⟩ := hN.out
  go_upto_region 4 with fail
  have bh := (Below.refl w4.heap.size w4).alloc (Nat.le_refl _) (.cells #[.int .u8 3, .slice A3 n3 c3] 45)
  have KP := Lib.hid (Blk.new w4 45 #[.int .u8 3, .slice A3 n3 c3])
  have hR4 := Lib.hid (hR3.out.into bh)
  replace KB := Lib.hid (KB.out.below bh KB.out.lt)
  replace KS := Lib.hid (KS.out.below bh KS.out.lt)
  replace KX := Lib.hid (KX.out.below bh KX.out.lt)
  replace HS := Lib.hid (HS.out.into bh)
  replace HO := Lib.hid (HO.out.into bh)
  replace b1 := Lib.hid (b1.out.trans (bh.mono b1.out.size))
  clear bh
  obtain ⟨ob, hob⟩ : ∃ ob, ob = w4.heap.size := ⟨_, rfl⟩
  rw [← hob] at KP ⊢
  clear hob hN hR3
  generalize w4.alloc (.cells #[.int .u8 3, .slice A3 n3 c3] 45) = w5 at *
  have hn3 : n3 ≤ 10000 := by rw [← hl3.out, HLO.out]; exact dataB_len2 ..
  have HC := Lib.hid (CovV.mk (kd := 3) HS.out HG.out hR4.out hc3 hn3 (by decide) HM.out.data (by rw [HLO.out]; exact dataB_byte _ _ _ _ _ _))
  have HT1 : Hid (∀ w' A n c, CovV w' (.agg #[.int .u16 (g.src : Int), .int .u16 (g.dst : Int), .int .u32 (g.seq : Int), .int .u32 (g.ack : Int), .int .u8 (g.flags : Int), .slice A1 n1 c1, .slice D m d]) g A n c 3 lo → Calls Try.prog 13 #[.agg #[.int .u64 (k0 : Nat), .int .u64 (k1 : Nat)], .agg #[.int .u16 (g.src : Int), .int .u16 (g.dst : Int), .int .u32 (g.seq : Int), .int .u32 (g.ack : Int), .int .u8 (g.flags : Int), .slice A1 n1 c1, .slice D m d], .agg #[.int .u8 3, .slice A n c]] w' fun e w'' => e = .returned (.int .u64 (tg : Nat)) ∧ Below w'.heap.size w' w'') := Lib.hid (fun w' A n c h => by rw [HTG.out]; exact mtag_any k0 k1 _ g A n c 3 lo w' h0 h1 h)
  have HT2 : Hid (∀ w' A n c, CovV w' (.agg #[.int .u16 (g.src : Int), .int .u16 (g.dst : Int), .int .u32 (g.seq : Int), .int .u32 (g.ack : Int), .int .u8 (g.flags : Int), .slice A1 n1 c1, .slice D m d]) g A n c 3 lo → Calls Try.prog 14 #[.agg #[.int .u64 (k0 : Nat), .int .u64 (k1 : Nat)], .agg #[.int .u16 (g.src : Int), .int .u16 (g.dst : Int), .int .u32 (g.seq : Int), .int .u32 (g.ack : Int), .int .u8 (g.flags : Int), .slice A1 n1 c1, .slice D m d], .int .u8 3, .slice A n c] w' fun e w'' => e = .returned (.int .u64 (tg : Nat)) ∧ Below w'.heap.size w' w'') := Lib.hid (fun w' A n c h => by rw [HTG.out]; exact rtag_any k0 k1 _ g A n c 3 lo w' h0 h1 h)
  have HRI : Hid (∀ w' A n c, CovV w' (.agg #[.int .u16 (g.src : Int), .int .u16 (g.dst : Int), .int .u32 (g.seq : Int), .int .u32 (g.ack : Int), .int .u8 (g.flags : Int), .slice A1 n1 c1, .slice D m d]) g A n c 3 lo → Calls Try.prog 15 #[.agg #[.int .u64 (k0 : Nat), .int .u64 (k1 : Nat)], .agg #[.int .u16 (g.src : Int), .int .u16 (g.dst : Int), .int .u32 (g.seq : Int), .int .u32 (g.ack : Int), .int .u8 (g.flags : Int), .slice A1 n1 c1, .slice D m d], .agg #[.int .u8 3, .slice A n c], .int .u64 (dt : Nat)] w' fun e w'' => e = .returned (.bool rq) ∧ Below w'.heap.size w' w'') := Lib.hid (fun w' A n c h => by rw [HRQ.out, HTG.out]; exact mright_any k0 k1 dt _ g A n c 3 lo w' h0 h1 h)
  have hre : ((tg : Int) == (dt : Int)) = rq := by rw [HRQ.out, Bool.eq_iff_iff, beq_iff_eq, decide_eq_true_eq]; omega
  have HRE := Lib.hid hre
  clear hre
  refine GH.wp_ghl (M := false) 49 ((GH.SP.eq (.agg #[.int .u16 (g.src : Int), .int .u16 (g.dst : Int), .int .u32 (g.seq : Int), .int .u32 (g.ack : Int), .int .u8 (g.flags : Int), .slice A1 n1 c1, .slice D m d])) :: (GH.SP.eq (.agg #[.int .u8 3, .slice A3 n3 c3])) :: (GH.SP.ns .u8 (coverL g 3 lo)) :: (GH.SP.eq (.string (strN (coverL g 3 lo)))) :: (GH.SP.eq (.agg #[.int .u16 (g.src : Int), .int .u16 (g.dst : Int), .int .u32 (g.seq : Int), .int .u32 (g.ack : Int), .int .u8 (g.flags : Int), .slice A1 n1 c1, .slice D m d])) :: (GH.SP.eq (.pointer (some ⟨ob, 0, none⟩))) :: (GH.SP.eq (.int .u8 3)) :: (GH.SP.eq (.pointer (some ⟨ob, 1, none⟩))) :: (GH.SP.eq (.slice A3 n3 c3)) :: (GH.SP.ns .u8 (coverL g 3 lo)) :: (GH.SP.eq (.string (strN (coverL g 3 lo)))) :: (GH.SP.eq (.bool false)) :: (GH.SP.eq (.bool false)) :: (GH.SP.eq (.agg #[.int .u64 (k0 : Nat), .int .u64 (k1 : Nat)])) :: (GH.SP.eq (.agg #[.int .u16 (g.src : Int), .int .u16 (g.dst : Int), .int .u32 (g.seq : Int), .int .u32 (g.ack : Int), .int .u8 (g.flags : Int), .slice A1 n1 c1, .slice D m d])) :: (GH.SP.eq (.agg #[.int .u8 3, .slice A3 n3 c3])) :: (GH.SP.eq (.int .u64 (tg : Nat))) :: (GH.SP.eq (.agg #[.int .u64 (k0 : Nat), .int .u64 (k1 : Nat)])) :: (GH.SP.eq (.agg #[.int .u16 (g.src : Int), .int .u16 (g.dst : Int), .int .u32 (g.seq : Int), .int .u32 (g.ack : Int), .int .u8 (g.flags : Int), .slice A1 n1 c1, .slice D m d])) :: (GH.SP.eq (.pointer (some ⟨ob, 0, none⟩))) :: (GH.SP.eq (.int .u8 3)) :: (GH.SP.eq (.pointer (some ⟨ob, 1, none⟩))) :: (GH.SP.eq (.slice A3 n3 c3)) :: (GH.SP.eq (.int .u64 (tg : Nat))) :: (GH.SP.eq (.bool false)) :: (GH.SP.eq (.bool false)) :: (GH.SP.eq (.bool false)) :: (GH.SP.eq (.agg #[.int .u64 (k0 : Nat), .int .u64 (k1 : Nat)])) :: (GH.SP.eq (.agg #[.int .u16 (g.src : Int), .int .u16 (g.dst : Int), .int .u32 (g.seq : Int), .int .u32 (g.ack : Int), .int .u8 (g.flags : Int), .slice A1 n1 c1, .slice D m d])) :: (GH.SP.eq (.agg #[.int .u8 3, .slice A3 n3 c3])) :: (GH.SP.eq (.pointer (some ⟨w.heap.size + 2, 9, none⟩))) :: (GH.SP.eq (.pointer (some ⟨w.heap.size + 2, 14, none⟩))) :: (GH.SP.eq (.pointer (some ⟨w.heap.size + 2, 14, none⟩))) :: (GH.SP.eq (.int .u64 (dt : Nat))) :: (GH.SP.eq (.bool rq)) :: (GH.SP.eq (.agg #[.int .u64 (k0 : Nat), .int .u64 (k1 : Nat)])) :: (GH.SP.eq (.agg #[.int .u16 (g.src : Int), .int .u16 (g.dst : Int), .int .u32 (g.seq : Int), .int .u32 (g.ack : Int), .int .u8 (g.flags : Int), .slice A1 n1 c1, .slice D m d])) :: (GH.SP.eq (.pointer (some ⟨ob, 0, none⟩))) :: (GH.SP.eq (.int .u8 3)) :: (GH.SP.eq (.pointer (some ⟨ob, 1, none⟩))) :: (GH.SP.eq (.slice A3 n3 c3)) :: (GH.SP.eq (.int .u64 (tg : Nat))) :: (GH.SP.eq (.pointer (some ⟨w.heap.size + 2, 9, none⟩))) :: (GH.SP.eq (.pointer (some ⟨w.heap.size + 2, 14, none⟩))) :: (GH.SP.eq (.pointer (some ⟨w.heap.size + 2, 14, none⟩))) :: (GH.SP.eq (.int .u64 (dt : Nat))) :: (GH.SP.eq (.bool rq)) :: (GH.SP.eq (.bool false)) :: (GH.SP.eq (.bool false)) :: []) (none :: none :: none :: none :: none :: none :: none :: none :: none :: none :: none :: none :: none :: none :: none :: none :: none :: none :: none :: none :: none :: (some 0) :: (some 1) :: (some 2) :: (some 3) :: (some 4) :: (some 5) :: (some 6) :: (some 7) :: (some 8) :: (some 9) :: (some 10) :: (some 11) :: (some 12) :: (some 13) :: (some 14) :: (some 15) :: (some 16) :: (some 17) :: (some 18) :: (some 19) :: (some 20) :: (some 21) :: (some 22) :: (some 23) :: (some 24) :: (some 25) :: (some 26) :: (some 27) :: (some 28) :: (some 29) :: (some 30) :: (some 31) :: (some 32) :: (some 33) :: (some 34) :: (some 35) :: (some 36) :: (some 37) :: (some 38) :: (some 39) :: (some 40) :: (some 41) :: (some 42) :: (some 43) :: (some 44) :: (some 45) :: (some 46) :: (some 47) :: (some 48) :: none :: none :: none :: none :: none :: none :: none :: none :: none :: none :: none :: none :: none :: none :: none :: none :: none :: none :: none :: none :: none :: none :: none :: none :: none :: none :: none :: none :: none :: none :: none :: none :: none :: none :: none :: none :: none :: none :: none :: none :: none :: none :: none :: none :: none :: none :: none :: none :: none :: none :: none :: none :: none :: none :: none :: none :: none :: none :: none :: none :: none :: none :: none :: none :: none :: none :: none :: none :: none :: none :: none :: none :: none :: none :: none :: none :: none :: none :: none :: none :: none :: none :: none :: none :: none :: none :: none :: none :: none :: none :: none :: none :: none :: none :: none :: none :: none :: none :: none :: none :: none :: none :: none :: none :: none :: none :: none :: none :: none :: none :: none :: none :: none :: none :: none :: none :: none :: none :: none :: none :: none :: none :: none :: none :: none :: none :: none :: none :: none :: none :: none :: none :: none :: none :: none :: none :: none :: none :: []) [21, 22, 23, 24, 25, 26, 27, 28, 29, 30, 31, 32, 33, 34, 35, 36, 37, 38, 39, 40, 41, 42, 43, 44, 45, 46, 47, 48, 49, 50, 51, 52, 53, 54, 55, 56, 57, 58, 59, 60, 61, 62, 63, 64, 65, 66, 67, 68, 69] (by rfl) (by kernel_rfl) (by kernel_rfl) ?_ ?_ ?_
  · intro S jx v hjx
    match jx, hjx with
    | 0, _ => rfl
    | 1, _ => rfl
    | 2, _ => rfl
    | 3, _ => rfl
    | 4, _ => rfl
    | 5, _ => rfl
    | 6, _ => rfl
    | 7, _ => rfl
    | 8, _ => rfl
    | 9, _ => rfl
    | 10, _ => rfl
    | 11, _ => rfl
    | 12, _ => rfl
    | 13, _ => rfl
    | 14, _ => rfl
    | 15, _ => rfl
    | 16, _ => rfl
    | 17, _ => rfl
    | 18, _ => rfl
    | 19, _ => rfl
    | 20, _ => rfl
    | 21, _ => rfl
    | 22, _ => rfl
    | 23, _ => rfl
    | 24, _ => rfl
    | 25, _ => rfl
    | 26, _ => rfl
    | 27, _ => rfl
    | 28, _ => rfl
    | 29, _ => rfl
    | 30, _ => rfl
    | 31, _ => rfl
    | 32, _ => rfl
    | 33, _ => rfl
    | 34, _ => rfl
    | 35, _ => rfl
    | 36, _ => rfl
    | 37, _ => rfl
    | 38, _ => rfl
    | 39, _ => rfl
    | 40, _ => rfl
    | 41, _ => rfl
    | 42, _ => rfl
    | 43, _ => rfl
    | 44, _ => rfl
    | 45, _ => rfl
    | 46, _ => rfl
    | 47, _ => rfl
    | 48, _ => rfl
    | nx + 49, hjx => omega
  · intro jx hjx S w' hb hd
    match jx, hjx, hd with
    | 0, _, hd =>
      simp only [GH.mkL, List.getD_cons_succ, List.getD_cons_zero]
      clear hd
      exact GH.st_loads _ [.int .u16 (g.src : Int), .int .u16 (g.dst : Int), .int .u32 (g.seq : Int), .int .u32 (g.ack : Int), .int .u8 (g.flags : Int), .slice A1 n1 c1, .slice D m d] (by rfl) rfl rfl (((KS.out.below hb.below KS.out.lt)).loads 0 _ (by rfl)) (by kernel_rfl) (by kernel_rfl)
    | 1, _, hd =>
      simp only [GH.mkL, List.getD_cons_succ, List.getD_cons_zero]
      clear hd
      exact GH.st_loads _ [.int .u8 3, .slice A3 n3 c3] (by rfl) rfl rfl (((KP.out.below hb.below KP.out.lt)).loads 0 _ (by rfl)) (by kernel_rfl) (by kernel_rfl)
    | 2, _, hd =>
      simp only [GH.mkL, List.getD_cons_succ, List.getD_cons_zero]
      have d0 : S 0 = .agg #[.int .u16 (g.src : Int), .int .u16 (g.dst : Int), .int .u32 (g.seq : Int), .int .u32 (g.ack : Int), .int .u8 (g.flags : Int), .slice A1 n1 c1, .slice D m d] := (hd 0 (by kernel_rfl)).2
      rw [d0]
      clear d0
      have d1 : S 1 = .agg #[.int .u8 3, .slice A3 n3 c3] := (hd 1 (by kernel_rfl)).2
      rw [d1]
      clear d1
      clear hd
      refine GH.st_call (by rfl) hb.below.size (by go_simp) ((mcover_any _ g A3 n3 c3 3 lo w' (HC.out.gr hb)).mono ?_)
      rintro e w9 ⟨⟨A9, n9, c9, rfl, e9, l9, h9⟩, hb9⟩
      exact ⟨_, rfl, hb9, ⟨_, _, _, rfl, e9, l9, h9⟩⟩
    | 3, _, hd =>
      simp only [GH.mkL, List.getD_cons_succ, List.getD_cons_zero]
      obtain ⟨A2, n2, c2, d2, e2, l2, H2⟩ := (hd 2 (by kernel_rfl)).2
      rw [d2]
      clear d2
      replace H2 := Lib.hid H2
      replace l2 := Lib.hid l2
      clear hd
      exact GH.st_conv Try.underlying28 Try.underlying5 Try.underlying9 _ (by rfl) rfl rfl H2.out
    | 4, _, hd =>
      simp only [GH.mkL, List.getD_cons_succ, List.getD_cons_zero]
      clear hd
      exact GH.st_loads _ [.int .u16 (g.src : Int), .int .u16 (g.dst : Int), .int .u32 (g.seq : Int), .int .u32 (g.ack : Int), .int .u8 (g.flags : Int), .slice A1 n1 c1, .slice D m d] (by rfl) rfl rfl (((KS.out.below hb.below KS.out.lt)).loads 0 _ (by rfl)) (by kernel_rfl) (by kernel_rfl)
    | 5, _, hd =>
      simp only [GH.mkL, List.getD_cons_succ, List.getD_cons_zero]
      clear hd
      refine GH.st_eq (by rfl) ?_
      go_simp
      (try with_reducible rfl)
    | 6, _, hd =>
      simp only [GH.mkL, List.getD_cons_succ, List.getD_cons_zero]
      have d5 : S 5 = .pointer (some ⟨ob, 0, none⟩) := (hd 5 (by kernel_rfl)).2
      rw [d5]
      clear d5
      clear hd
      exact GH.st_load _ (by rfl) rfl rfl (((KP.out.below hb.below KP.out.lt)).cell 0) (by kernel_rfl)
    | 7, _, hd =>
      simp only [GH.mkL, List.getD_cons_succ, List.getD_cons_zero]
      clear hd
      refine GH.st_eq (by rfl) ?_
      go_simp
      (try with_reducible rfl)
    | 8, _, hd =>
      simp only [GH.mkL, List.getD_cons_succ, List.getD_cons_zero]
      have d7 : S 7 = .pointer (some ⟨ob, 1, none⟩) := (hd 7 (by kernel_rfl)).2
      rw [d7]
      clear d7
      clear hd
      exact GH.st_load _ (by rfl) rfl rfl (((KP.out.below hb.below KP.out.lt)).cell 1) (by kernel_rfl)
    | 9, _, hd =>
      simp only [GH.mkL, List.getD_cons_succ, List.getD_cons_zero]
      obtain ⟨A2, n2, c2, d2, e2, l2, H2⟩ := (hd 2 (by kernel_rfl)).2
      rw [d2]
      clear d2
      replace H2 := Lib.hid H2
      replace l2 := Lib.hid l2
      have d4 : S 4 = .agg #[.int .u16 (g.src : Int), .int .u16 (g.dst : Int), .int .u32 (g.seq : Int), .int .u32 (g.ack : Int), .int .u8 (g.flags : Int), .slice A1 n1 c1, .slice D m d] := (hd 4 (by kernel_rfl)).2
      rw [d4]
      clear d4
      have d6 : S 6 = .int .u8 3 := (hd 6 (by kernel_rfl)).2
      rw [d6]
      clear d6
      have d8 : S 8 = .slice A3 n3 c3 := (hd 8 (by kernel_rfl)).2
      rw [d8]
      clear d8
      clear hd
      refine GH.st_call (by rfl) hb.below.size (by go_simp) ((rcover_any _ g A3 n3 c3 3 lo w' (HC.out.gr hb)).mono ?_)
      rintro e w9 ⟨v, rfl, hN, hb9⟩
      exact ⟨_, rfl, hb9, GH.ns_of_own hN⟩
    | 10, _, hd =>
      simp only [GH.mkL, List.getD_cons_succ, List.getD_cons_zero]
      obtain ⟨A9, n9, c9, d9, e9, l9, H9⟩ := (hd 9 (by kernel_rfl)).2
      rw [d9]
      clear d9
      replace H9 := Lib.hid H9
      replace l9 := Lib.hid l9
      clear hd
      exact GH.st_conv Try.underlying28 Try.underlying5 Try.underlying9 _ (by rfl) rfl rfl H9.out
    | 11, _, hd =>
      simp only [GH.mkL, List.getD_cons_succ, List.getD_cons_zero]
      have d3 : S 3 = .string (strN (coverL g 3 lo)) := (hd 3 (by kernel_rfl)).2
      rw [d3]
      clear d3
      have d10 : S 10 = .string (strN (coverL g 3 lo)) := (hd 10 (by kernel_rfl)).2
      rw [d10]
      clear d10
      clear hd
      refine GH.st_eq (by rfl) ?_
      go_simp
      (try with_reducible rfl)
    | 12, _, hd =>
      simp only [GH.mkL, List.getD_cons_succ, List.getD_cons_zero]
      obtain ⟨A9, n9, c9, d9, e9, l9, H9⟩ := (hd 9 (by kernel_rfl)).2
      rw [d9]
      clear d9
      replace H9 := Lib.hid H9
      replace l9 := Lib.hid l9
      have d11 : S 11 = .bool false := (hd 11 (by kernel_rfl)).2
      rw [d11]
      clear d11
      clear hd
      refine GH.st_eq (by rfl) ?_
      go_simp
      (try with_reducible rfl)
    | 13, _, hd =>
      simp only [GH.mkL, List.getD_cons_succ, List.getD_cons_zero]
      have d12 : S 12 = .bool false := (hd 12 (by kernel_rfl)).2
      rw [d12]
      clear d12
      clear hd
      exact GH.st_loads _ [.int .u64 (k0 : Nat), .int .u64 (k1 : Nat)] (by rfl) rfl rfl (((KB.out.below hb.below KB.out.lt)).loads 0 _ (by rfl)) (by kernel_rfl) (by kernel_rfl)
    | 14, _, hd =>
      simp only [GH.mkL, List.getD_cons_succ, List.getD_cons_zero]
      have d12 : S 12 = .bool false := (hd 12 (by kernel_rfl)).2
      rw [d12]
      clear d12
      clear hd
      exact GH.st_loads _ [.int .u16 (g.src : Int), .int .u16 (g.dst : Int), .int .u32 (g.seq : Int), .int .u32 (g.ack : Int), .int .u8 (g.flags : Int), .slice A1 n1 c1, .slice D m d] (by rfl) rfl rfl (((KS.out.below hb.below KS.out.lt)).loads 0 _ (by rfl)) (by kernel_rfl) (by kernel_rfl)
    | 15, _, hd =>
      simp only [GH.mkL, List.getD_cons_succ, List.getD_cons_zero]
      have d12 : S 12 = .bool false := (hd 12 (by kernel_rfl)).2
      rw [d12]
      clear d12
      clear hd
      exact GH.st_loads _ [.int .u8 3, .slice A3 n3 c3] (by rfl) rfl rfl (((KP.out.below hb.below KP.out.lt)).loads 0 _ (by rfl)) (by kernel_rfl) (by kernel_rfl)
    | 16, _, hd =>
      simp only [GH.mkL, List.getD_cons_succ, List.getD_cons_zero]
      have d12 : S 12 = .bool false := (hd 12 (by kernel_rfl)).2
      rw [d12]
      clear d12
      have d13 : S 13 = .agg #[.int .u64 (k0 : Nat), .int .u64 (k1 : Nat)] := (hd 13 (by kernel_rfl)).2
      rw [d13]
      clear d13
      have d14 : S 14 = .agg #[.int .u16 (g.src : Int), .int .u16 (g.dst : Int), .int .u32 (g.seq : Int), .int .u32 (g.ack : Int), .int .u8 (g.flags : Int), .slice A1 n1 c1, .slice D m d] := (hd 14 (by kernel_rfl)).2
      rw [d14]
      clear d14
      have d15 : S 15 = .agg #[.int .u8 3, .slice A3 n3 c3] := (hd 15 (by kernel_rfl)).2
      rw [d15]
      clear d15
      clear hd
      refine GH.st_call (by rfl) hb.below.size (by go_simp) ((HT1.out w' A3 n3 c3 (HC.out.gr hb)).mono ?_)
      rintro e w9 ⟨rfl, hb9⟩
      exact ⟨_, rfl, hb9, rfl⟩
    | 17, _, hd =>
      simp only [GH.mkL, List.getD_cons_succ, List.getD_cons_zero]
      have d12 : S 12 = .bool false := (hd 12 (by kernel_rfl)).2
      rw [d12]
      clear d12
      clear hd
      exact GH.st_loads _ [.int .u64 (k0 : Nat), .int .u64 (k1 : Nat)] (by rfl) rfl rfl (((KB.out.below hb.below KB.out.lt)).loads 0 _ (by rfl)) (by kernel_rfl) (by kernel_rfl)
    | 18, _, hd =>
      simp only [GH.mkL, List.getD_cons_succ, List.getD_cons_zero]
      have d12 : S 12 = .bool false := (hd 12 (by kernel_rfl)).2
      rw [d12]
      clear d12
      clear hd
      exact GH.st_loads _ [.int .u16 (g.src : Int), .int .u16 (g.dst : Int), .int .u32 (g.seq : Int), .int .u32 (g.ack : Int), .int .u8 (g.flags : Int), .slice A1 n1 c1, .slice D m d] (by rfl) rfl rfl (((KS.out.below hb.below KS.out.lt)).loads 0 _ (by rfl)) (by kernel_rfl) (by kernel_rfl)
    | 19, _, hd =>
      simp only [GH.mkL, List.getD_cons_succ, List.getD_cons_zero]
      have d12 : S 12 = .bool false := (hd 12 (by kernel_rfl)).2
      rw [d12]
      clear d12
      clear hd
      refine GH.st_eq (by rfl) ?_
      go_simp
      (try with_reducible rfl)
    | 20, _, hd =>
      simp only [GH.mkL, List.getD_cons_succ, List.getD_cons_zero]
      have d12 : S 12 = .bool false := (hd 12 (by kernel_rfl)).2
      rw [d12]
      clear d12
      have d19 : S 19 = .pointer (some ⟨ob, 0, none⟩) := (hd 19 (by kernel_rfl)).2
      rw [d19]
      clear d19
      clear hd
      exact GH.st_load _ (by rfl) rfl rfl (((KP.out.below hb.below KP.out.lt)).cell 0) (by kernel_rfl)
    | 21, _, hd =>
      simp only [GH.mkL, List.getD_cons_succ, List.getD_cons_zero]
      have d12 : S 12 = .bool false := (hd 12 (by kernel_rfl)).2
      rw [d12]
      clear d12
      clear hd
      refine GH.st_eq (by rfl) ?_
      go_simp
      (try with_reducible rfl)
    | 22, _, hd =>
      simp only [GH.mkL, List.getD_cons_succ, List.getD_cons_zero]
      have d12 : S 12 = .bool false := (hd 12 (by kernel_rfl)).2
      rw [d12]
      clear d12
      have d21 : S 21 = .pointer (some ⟨ob, 1, none⟩) := (hd 21 (by kernel_rfl)).2
      rw [d21]
      clear d21
      clear hd
      exact GH.st_load _ (by rfl) rfl rfl (((KP.out.below hb.below KP.out.lt)).cell 1) (by kernel_rfl)
    | 23, _, hd =>
      simp only [GH.mkL, List.getD_cons_succ, List.getD_cons_zero]
      have d12 : S 12 = .bool false := (hd 12 (by kernel_rfl)).2
      rw [d12]
      clear d12
      have d16 : S 16 = .int .u64 (tg : Nat) := (hd 16 (by kernel_rfl)).2
      rw [d16]
      clear d16
      have d17 : S 17 = .agg #[.int .u64 (k0 : Nat), .int .u64 (k1 : Nat)] := (hd 17 (by kernel_rfl)).2
      rw [d17]
      clear d17
      have d18 : S 18 = .agg #[.int .u16 (g.src : Int), .int .u16 (g.dst : Int), .int .u32 (g.seq : Int), .int .u32 (g.ack : Int), .int .u8 (g.flags : Int), .slice A1 n1 c1, .slice D m d] := (hd 18 (by kernel_rfl)).2
      rw [d18]
      clear d18
      have d20 : S 20 = .int .u8 3 := (hd 20 (by kernel_rfl)).2
      rw [d20]
      clear d20
      have d22 : S 22 = .slice A3 n3 c3 := (hd 22 (by kernel_rfl)).2
      rw [d22]
      clear d22
      clear hd
      refine GH.st_call (by rfl) hb.below.size (by go_simp) ((HT2.out w' A3 n3 c3 (HC.out.gr hb)).mono ?_)
      rintro e w9 ⟨rfl, hb9⟩
      exact ⟨_, rfl, hb9, rfl⟩
    | 24, _, hd =>
      simp only [GH.mkL, List.getD_cons_succ, List.getD_cons_zero]
      have d12 : S 12 = .bool false := (hd 12 (by kernel_rfl)).2
      rw [d12]
      clear d12
      have d16 : S 16 = .int .u64 (tg : Nat) := (hd 16 (by kernel_rfl)).2
      rw [d16]
      clear d16
      have d23 : S 23 = .int .u64 (tg : Nat) := (hd 23 (by kernel_rfl)).2
      rw [d23]
      clear d23
      clear hd
      refine GH.st_eq (by rfl) ?_
      go_simp
      (try with_reducible rfl)
    | 25, _, hd =>
      simp only [GH.mkL, List.getD_cons_succ, List.getD_cons_zero]
      have d12 : S 12 = .bool false := (hd 12 (by kernel_rfl)).2
      rw [d12]
      clear d12
      have d24 : S 24 = .bool false := (hd 24 (by kernel_rfl)).2
      rw [d24]
      clear d24
      clear hd
      refine GH.st_eq (by rfl) ?_
      go_simp
      (try with_reducible rfl)
    | 26, _, hd =>
      simp only [GH.mkL, List.getD_cons_succ, List.getD_cons_zero]
      have d23 : S 23 = .int .u64 (tg : Nat) := (hd 23 (by kernel_rfl)).2
      rw [d23]
      clear d23
      have d25 : S 25 = .bool false := (hd 25 (by kernel_rfl)).2
      rw [d25]
      clear d25
      clear hd
      refine GH.st_eq (by rfl) ?_
      go_simp
      (try with_reducible rfl)
    | 27, _, hd =>
      simp only [GH.mkL, List.getD_cons_succ, List.getD_cons_zero]
      have d26 : S 26 = .bool false := (hd 26 (by kernel_rfl)).2
      rw [d26]
      clear d26
      clear hd
      exact GH.st_loads _ [.int .u64 (k0 : Nat), .int .u64 (k1 : Nat)] (by rfl) rfl rfl (((KB.out.below hb.below KB.out.lt)).loads 0 _ (by rfl)) (by kernel_rfl) (by kernel_rfl)
    | 28, _, hd =>
      simp only [GH.mkL, List.getD_cons_succ, List.getD_cons_zero]
      have d26 : S 26 = .bool false := (hd 26 (by kernel_rfl)).2
      rw [d26]
      clear d26
      clear hd
      exact GH.st_loads _ [.int .u16 (g.src : Int), .int .u16 (g.dst : Int), .int .u32 (g.seq : Int), .int .u32 (g.ack : Int), .int .u8 (g.flags : Int), .slice A1 n1 c1, .slice D m d] (by rfl) rfl rfl (((KS.out.below hb.below KS.out.lt)).loads 0 _ (by rfl)) (by kernel_rfl) (by kernel_rfl)
    | 29, _, hd =>
      simp only [GH.mkL, List.getD_cons_succ, List.getD_cons_zero]
      have d26 : S 26 = .bool false := (hd 26 (by kernel_rfl)).2
      rw [d26]
      clear d26
      clear hd
      exact GH.st_loads _ [.int .u8 3, .slice A3 n3 c3] (by rfl) rfl rfl (((KP.out.below hb.below KP.out.lt)).loads 0 _ (by rfl)) (by kernel_rfl) (by kernel_rfl)
    | 30, _, hd =>
      simp only [GH.mkL, List.getD_cons_succ, List.getD_cons_zero]
      have d26 : S 26 = .bool false := (hd 26 (by kernel_rfl)).2
      rw [d26]
      clear d26
      clear hd
      refine GH.st_eq (by rfl) ?_
      go_simp
      (try with_reducible rfl)
    | 31, _, hd =>
      simp only [GH.mkL, List.getD_cons_succ, List.getD_cons_zero]
      have d26 : S 26 = .bool false := (hd 26 (by kernel_rfl)).2
      rw [d26]
      clear d26
      have d30 : S 30 = .pointer (some ⟨w.heap.size + 2, 9, none⟩) := (hd 30 (by kernel_rfl)).2
      rw [d30]
      clear d30
      clear hd
      refine GH.st_eq (by rfl) ?_
      go_simp
      (try with_reducible rfl)
    | 32, _, hd =>
      simp only [GH.mkL, List.getD_cons_succ, List.getD_cons_zero]
      have d26 : S 26 = .bool false := (hd 26 (by kernel_rfl)).2
      rw [d26]
      clear d26
      have d31 : S 31 = .pointer (some ⟨w.heap.size + 2, 14, none⟩) := (hd 31 (by kernel_rfl)).2
      rw [d31]
      clear d31
      clear hd
      refine GH.st_eq (by rfl) ?_
      go_simp
      (try with_reducible rfl)
    | 33, _, hd =>
      simp only [GH.mkL, List.getD_cons_succ, List.getD_cons_zero]
      have d26 : S 26 = .bool false := (hd 26 (by kernel_rfl)).2
      rw [d26]
      clear d26
      have d32 : S 32 = .pointer (some ⟨w.heap.size + 2, 14, none⟩) := (hd 32 (by kernel_rfl)).2
      rw [d32]
      clear d32
      clear hd
      exact GH.st_load _ (by rfl) rfl rfl (((KX.out.below hb.below KX.out.lt)).cell 14) (by kernel_rfl)
    | 34, _, hd =>
      simp only [GH.mkL, List.getD_cons_succ, List.getD_cons_zero]
      have d26 : S 26 = .bool false := (hd 26 (by kernel_rfl)).2
      rw [d26]
      clear d26
      have d27 : S 27 = .agg #[.int .u64 (k0 : Nat), .int .u64 (k1 : Nat)] := (hd 27 (by kernel_rfl)).2
      rw [d27]
      clear d27
      have d28 : S 28 = .agg #[.int .u16 (g.src : Int), .int .u16 (g.dst : Int), .int .u32 (g.seq : Int), .int .u32 (g.ack : Int), .int .u8 (g.flags : Int), .slice A1 n1 c1, .slice D m d] := (hd 28 (by kernel_rfl)).2
      rw [d28]
      clear d28
      have d29 : S 29 = .agg #[.int .u8 3, .slice A3 n3 c3] := (hd 29 (by kernel_rfl)).2
      rw [d29]
      clear d29
      have d33 : S 33 = .int .u64 (dt : Nat) := (hd 33 (by kernel_rfl)).2
      rw [d33]
      clear d33
      clear hd
      refine GH.st_call (by rfl) hb.below.size (by go_simp) ((HRI.out w' A3 n3 c3 (HC.out.gr hb)).mono ?_)
      rintro e w9 ⟨rfl, hb9⟩
      exact ⟨_, rfl, hb9, rfl⟩
    | 35, _, hd =>
      simp only [GH.mkL, List.getD_cons_succ, List.getD_cons_zero]
      have d26 : S 26 = .bool false := (hd 26 (by kernel_rfl)).2
      rw [d26]
      clear d26
      clear hd
      exact GH.st_loads _ [.int .u64 (k0 : Nat), .int .u64 (k1 : Nat)] (by rfl) rfl rfl (((KB.out.below hb.below KB.out.lt)).loads 0 _ (by rfl)) (by kernel_rfl) (by kernel_rfl)
    | 36, _, hd =>
      simp only [GH.mkL, List.getD_cons_succ, List.getD_cons_zero]
      have d26 : S 26 = .bool false := (hd 26 (by kernel_rfl)).2
      rw [d26]
      clear d26
      clear hd
      exact GH.st_loads _ [.int .u16 (g.src : Int), .int .u16 (g.dst : Int), .int .u32 (g.seq : Int), .int .u32 (g.ack : Int), .int .u8 (g.flags : Int), .slice A1 n1 c1, .slice D m d] (by rfl) rfl rfl (((KS.out.below hb.below KS.out.lt)).loads 0 _ (by rfl)) (by kernel_rfl) (by kernel_rfl)
    | 37, _, hd =>
      simp only [GH.mkL, List.getD_cons_succ, List.getD_cons_zero]
      have d26 : S 26 = .bool false := (hd 26 (by kernel_rfl)).2
      rw [d26]
      clear d26
      clear hd
      refine GH.st_eq (by rfl) ?_
      go_simp
      (try with_reducible rfl)
    | 38, _, hd =>
      simp only [GH.mkL, List.getD_cons_succ, List.getD_cons_zero]
      have d26 : S 26 = .bool false := (hd 26 (by kernel_rfl)).2
      rw [d26]
      clear d26
      have d37 : S 37 = .pointer (some ⟨ob, 0, none⟩) := (hd 37 (by kernel_rfl)).2
      rw [d37]
      clear d37
      clear hd
      exact GH.st_load _ (by rfl) rfl rfl (((KP.out.below hb.below KP.out.lt)).cell 0) (by kernel_rfl)
    | 39, _, hd =>
      simp only [GH.mkL, List.getD_cons_succ, List.getD_cons_zero]
      have d26 : S 26 = .bool false := (hd 26 (by kernel_rfl)).2
      rw [d26]
      clear d26
      clear hd
      refine GH.st_eq (by rfl) ?_
      go_simp
      (try with_reducible rfl)
    | 40, _, hd =>
      simp only [GH.mkL, List.getD_cons_succ, List.getD_cons_zero]
      have d26 : S 26 = .bool false := (hd 26 (by kernel_rfl)).2
      rw [d26]
      clear d26
      have d39 : S 39 = .pointer (some ⟨ob, 1, none⟩) := (hd 39 (by kernel_rfl)).2
      rw [d39]
      clear d39
      clear hd
      exact GH.st_load _ (by rfl) rfl rfl (((KP.out.below hb.below KP.out.lt)).cell 1) (by kernel_rfl)
    | 41, _, hd =>
      simp only [GH.mkL, List.getD_cons_succ, List.getD_cons_zero]
      have d26 : S 26 = .bool false := (hd 26 (by kernel_rfl)).2
      rw [d26]
      clear d26
      have d34 : S 34 = .bool rq := (hd 34 (by kernel_rfl)).2
      rw [d34]
      clear d34
      have d35 : S 35 = .agg #[.int .u64 (k0 : Nat), .int .u64 (k1 : Nat)] := (hd 35 (by kernel_rfl)).2
      rw [d35]
      clear d35
      have d36 : S 36 = .agg #[.int .u16 (g.src : Int), .int .u16 (g.dst : Int), .int .u32 (g.seq : Int), .int .u32 (g.ack : Int), .int .u8 (g.flags : Int), .slice A1 n1 c1, .slice D m d] := (hd 36 (by kernel_rfl)).2
      rw [d36]
      clear d36
      have d38 : S 38 = .int .u8 3 := (hd 38 (by kernel_rfl)).2
      rw [d38]
      clear d38
      have d40 : S 40 = .slice A3 n3 c3 := (hd 40 (by kernel_rfl)).2
      rw [d40]
      clear d40
      clear hd
      refine GH.st_call (by rfl) hb.below.size (by go_simp) ((HT2.out w' A3 n3 c3 (HC.out.gr hb)).mono ?_)
      rintro e w9 ⟨rfl, hb9⟩
      exact ⟨_, rfl, hb9, rfl⟩
    | 42, _, hd =>
      simp only [GH.mkL, List.getD_cons_succ, List.getD_cons_zero]
      have d26 : S 26 = .bool false := (hd 26 (by kernel_rfl)).2
      rw [d26]
      clear d26
      clear hd
      refine GH.st_eq (by rfl) ?_
      go_simp
      (try with_reducible rfl)
    | 43, _, hd =>
      simp only [GH.mkL, List.getD_cons_succ, List.getD_cons_zero]
      have d26 : S 26 = .bool false := (hd 26 (by kernel_rfl)).2
      rw [d26]
      clear d26
      have d42 : S 42 = .pointer (some ⟨w.heap.size + 2, 9, none⟩) := (hd 42 (by kernel_rfl)).2
      rw [d42]
      clear d42
      clear hd
      refine GH.st_eq (by rfl) ?_
      go_simp
      (try with_reducible rfl)
    | 44, _, hd =>
      simp only [GH.mkL, List.getD_cons_succ, List.getD_cons_zero]
      have d26 : S 26 = .bool false := (hd 26 (by kernel_rfl)).2
      rw [d26]
      clear d26
      have d43 : S 43 = .pointer (some ⟨w.heap.size + 2, 14, none⟩) := (hd 43 (by kernel_rfl)).2
      rw [d43]
      clear d43
      clear hd
      refine GH.st_eq (by rfl) ?_
      go_simp
      (try with_reducible rfl)
    | 45, _, hd =>
      simp only [GH.mkL, List.getD_cons_succ, List.getD_cons_zero]
      have d26 : S 26 = .bool false := (hd 26 (by kernel_rfl)).2
      rw [d26]
      clear d26
      have d44 : S 44 = .pointer (some ⟨w.heap.size + 2, 14, none⟩) := (hd 44 (by kernel_rfl)).2
      rw [d44]
      clear d44
      clear hd
      exact GH.st_load _ (by rfl) rfl rfl (((KX.out.below hb.below KX.out.lt)).cell 14) (by kernel_rfl)
    | 46, _, hd =>
      simp only [GH.mkL, List.getD_cons_succ, List.getD_cons_zero]
      have d26 : S 26 = .bool false := (hd 26 (by kernel_rfl)).2
      rw [d26]
      clear d26
      have d41 : S 41 = .int .u64 (tg : Nat) := (hd 41 (by kernel_rfl)).2
      rw [d41]
      clear d41
      have d45 : S 45 = .int .u64 (dt : Nat) := (hd 45 (by kernel_rfl)).2
      rw [d45]
      clear d45
      clear hd
      refine GH.st_eq (by rfl) ?_
      have hre := HRE.out
      go_simp
      (try with_reducible rfl)
    | 47, _, hd =>
      simp only [GH.mkL, List.getD_cons_succ, List.getD_cons_zero]
      have d26 : S 26 = .bool false := (hd 26 (by kernel_rfl)).2
      rw [d26]
      clear d26
      have d34 : S 34 = .bool rq := (hd 34 (by kernel_rfl)).2
      rw [d34]
      clear d34
      have d46 : S 46 = .bool rq := (hd 46 (by kernel_rfl)).2
      rw [d46]
      clear d46
      clear hd
      refine GH.st_eq (by rfl) ?_
      go_simp
      (try with_reducible rfl)
    | 48, _, hd =>
      simp only [GH.mkL, List.getD_cons_succ, List.getD_cons_zero]
      have d26 : S 26 = .bool false := (hd 26 (by kernel_rfl)).2
      rw [d26]
      clear d26
      have d47 : S 47 = .bool false := (hd 47 (by kernel_rfl)).2
      rw [d47]
      clear d47
      clear hd
      refine GH.st_eq (by rfl) ?_
      go_simp
      (try with_reducible rfl)
    | nx + 49, hjx, _ => omega
  intro S w' hb hG
  simp only [GH.mkL, List.drop_succ_cons, List.drop_zero]
  have d48 : S 48 = .bool false := hG 48 (by omega)
  rw [d48]
  clear d48
  clear hG
  have bh : Below w5.heap.size w5 w' := hb.below
  replace KB := Lib.hid (KB.out.below bh KB.out.lt)
  replace KS := Lib.hid (KS.out.below bh KS.out.lt)
  replace KX := Lib.hid (KX.out.below bh KX.out.lt)
  replace HS := Lib.hid (HS.out.into bh)
  replace HO := Lib.hid (HO.out.into bh)
  replace b1 := Lib.hid (b1.out.trans (bh.mono b1.out.size))
  clear bh
  clear hb KP HC HT1 HT2 HRI HRE HRQ hR4 hl3
  generalize w' = w6 at *
  refine wpList_nil ?_
  obtain ⟨_, _, _, _, _, s5, _⟩ := seg_cells KS.out
  go_wp2_with fail
  have hn1 : n1 ≤ 120 := by
    have e : g.opts.length = n1 := by rw [HOS.out]; unfold osay; rw [List.length_map]; exact HO.out.len
    omega
  go_loopw [8] (fun iv wr => ∃ i : Nat, i ≤ n1 ∧ iv = .int .i64 (i : Nat) ∧ Hid (Below w6.heap.size w6 wr)) (fun iv _ => n1 - (intOf iv).toNat)
  case atStart => exact ⟨0, Nat.zero_le _, rfl, Lib.hid (Below.refl _ _)⟩
  case round =>
  clear s5
  obtain ⟨i, hi, rfl, hbw⟩ := hrel
  have bh := hbw.out
  replace KB := Lib.hid (KB.out.below bh KB.out.lt)
  replace KS := Lib.hid (KS.out.below bh KS.out.lt)
  replace KX := Lib.hid (KX.out.below bh KX.out.lt)
  replace HS := Lib.hid (HS.out.into bh)
  replace HO := Lib.hid (HO.out.into bh)
  replace b1 := Lib.hid (b1.out.trans (bh.mono b1.out.size))
  clear bh
  obtain ⟨_, _, _, _, _, s5, _⟩ := seg_cells KS.out
  by_cases hlt : i < n1
  · have HLT := Lib.hid hlt
    have hlt' : (i : Int) < (n1 : Int) := by omega
    obtain ⟨ab, ao, ko, q, eA, hab, p0, p1, hp, hr, hrl⟩ := HO.out.at_ hlt
    obtain ⟨qA, qn, qc, ql⟩ := q
    dsimp only at *
    have EA := Lib.hid eA
    have P0 := Lib.hid p0
    have P1 := Lib.hid p1
    have hmem : (ko, ql) ∈ g.opts := by rw [HOS.out]; exact List.mem_of_getElem? (osay_at hp)
    have hcap := (HO.out.bod _ (List.mem_of_getElem? hp.out)).2
    have HCI := Lib.hid (CovV.mk (kd := ko) HS.out HG.out hr.out hcap.1 (by have := HQ3.out _ hmem; have := hrl.out; dsimp only at *; omega) (HG.out.kinds _ hmem) HM.out.data (HG.out.bodies _ hmem))
    clear eA p0 p1 hp hr hrl hmem hcap
    go_upto_region 9 with fail
    refine GH.wp_ghl (M := false) 24 ((GH.SP.eq (.agg #[.int .u16 (g.src : Int), .int .u16 (g.dst : Int), .int .u32 (g.seq : Int), .int .u32 (g.ack : Int), .int .u8 (g.flags : Int), .slice A1 n1 c1, .slice D m d])) :: (GH.SP.eq (.pointer (some ⟨w.heap.size + 1, 5, none⟩))) :: (GH.SP.eq (.slice A1 n1 c1)) :: (GH.SP.eq (.int .i64 (i : Nat))) :: (GH.SP.eq (.pointer (some ⟨ab, ao + i * 2, none⟩))) :: (GH.SP.eq (.agg #[.int .u8 (ko : Nat), .slice qA qn qc])) :: (GH.SP.ns .u8 (coverL g ko ql)) :: (GH.SP.eq (.string (strN (coverL g ko ql)))) :: (GH.SP.eq (.agg #[.int .u16 (g.src : Int), .int .u16 (g.dst : Int), .int .u32 (g.seq : Int), .int .u32 (g.ack : Int), .int .u8 (g.flags : Int), .slice A1 n1 c1, .slice D m d])) :: (GH.SP.eq (.pointer (some ⟨w.heap.size + 1, 5, none⟩))) :: (GH.SP.eq (.slice A1 n1 c1)) :: (GH.SP.eq (.int .i64 (i : Nat))) :: (GH.SP.eq (.pointer (some ⟨ab, ao + i * 2, none⟩))) :: (GH.SP.eq (.pointer (some ⟨ab, ao + i * 2, none⟩))) :: (GH.SP.eq (.int .u8 (ko : Nat))) :: (GH.SP.eq (.pointer (some ⟨w.heap.size + 1, 5, none⟩))) :: (GH.SP.eq (.slice A1 n1 c1)) :: (GH.SP.eq (.int .i64 (i : Nat))) :: (GH.SP.eq (.pointer (some ⟨ab, ao + i * 2, none⟩))) :: (GH.SP.eq (.pointer (some ⟨ab, ao + i * 2 + 1, none⟩))) :: (GH.SP.eq (.slice qA qn qc)) :: (GH.SP.ns .u8 (coverL g ko ql)) :: (GH.SP.eq (.string (strN (coverL g ko ql)))) :: (GH.SP.eq (.bool false)) :: []) (none :: none :: none :: none :: none :: none :: none :: none :: none :: none :: none :: none :: none :: none :: none :: none :: none :: none :: none :: none :: none :: none :: none :: none :: none :: none :: none :: none :: none :: none :: none :: none :: none :: none :: none :: none :: none :: none :: none :: none :: none :: none :: none :: none :: none :: none :: none :: none :: none :: none :: none :: none :: none :: none :: none :: none :: none :: none :: none :: none :: none :: none :: none :: none :: none :: none :: none :: none :: none :: none :: none :: none :: none :: none :: none :: none :: none :: (some 0) :: (some 1) :: (some 2) :: (some 3) :: (some 4) :: (some 5) :: (some 6) :: (some 7) :: (some 8) :: (some 9) :: (some 10) :: (some 11) :: (some 12) :: (some 13) :: (some 14) :: (some 15) :: (some 16) :: (some 17) :: (some 18) :: (some 19) :: (some 20) :: (some 21) :: (some 22) :: (some 23) :: none :: none :: none :: none :: none :: none :: none :: none :: none :: none :: none :: none :: none :: none :: none :: none :: none :: none :: none :: none :: none :: none :: none :: none :: none :: none :: none :: none :: none :: none :: none :: none :: none :: none :: none :: none :: none :: none :: none :: none :: none :: none :: none :: none :: none :: none :: none :: none :: none :: none :: none :: none :: none :: none :: none :: none :: none :: none :: none :: none :: none :: none :: none :: none :: none :: none :: none :: none :: none :: none :: none :: none :: none :: none :: none :: none :: none :: none :: none :: none :: none :: none :: none :: none :: none :: none :: none :: none :: none :: none :: none :: none :: none :: none :: none :: none :: none :: none :: none :: none :: none :: none :: none :: none :: none :: none :: none :: []) [77, 78, 79, 80, 81, 82, 83, 84, 85, 86, 87, 88, 89, 90, 91, 92, 93, 94, 95, 96, 97, 98, 99, 100] (by rfl) (by kernel_rfl) (by kernel_rfl) ?_ ?_ ?_
    · intro S jx v hjx
      match jx, hjx with
      | 0, _ => rfl
      | 1, _ => rfl
      | 2, _ => rfl
      | 3, _ => rfl
      | 4, _ => rfl
      | 5, _ => rfl
      | 6, _ => rfl
      | 7, _ => rfl
      | 8, _ => rfl
      | 9, _ => rfl
      | 10, _ => rfl
      | 11, _ => rfl
      | 12, _ => rfl
      | 13, _ => rfl
      | 14, _ => rfl
      | 15, _ => rfl
      | 16, _ => rfl
      | 17, _ => rfl
      | 18, _ => rfl
      | 19, _ => rfl
      | 20, _ => rfl
      | 21, _ => rfl
      | 22, _ => rfl
      | 23, _ => rfl
      | nx + 24, hjx => omega
    · intro jx hjx S w' hb hd
      match jx, hjx, hd with
      | 0, _, hd =>
        simp only [GH.mkL, List.getD_cons_succ, List.getD_cons_zero]
        clear hd
        exact GH.st_loads _ [.int .u16 (g.src : Int), .int .u16 (g.dst : Int), .int .u32 (g.seq : Int), .int .u32 (g.ack : Int), .int .u8 (g.flags : Int), .slice A1 n1 c1, .slice D m d] (by rfl) rfl rfl (((KS.out.below hb.below KS.out.lt)).loads 0 _ (by rfl)) (by kernel_rfl) (by kernel_rfl)
      | 1, _, hd =>
        simp only [GH.mkL, List.getD_cons_succ, List.getD_cons_zero]
        clear hd
        refine GH.st_eq (by rfl) ?_
        go_simp
        (try with_reducible rfl)
      | 2, _, hd =>
        simp only [GH.mkL, List.getD_cons_succ, List.getD_cons_zero]
        have d1 : S 1 = .pointer (some ⟨w.heap.size + 1, 5, none⟩) := (hd 1 (by kernel_rfl)).2
        rw [d1]
        clear d1
        clear hd
        exact GH.st_load _ (by rfl) rfl rfl (((KS.out.below hb.below KS.out.lt)).cell 5) (by kernel_rfl)
      | 3, _, hd =>
        simp only [GH.mkL, List.getD_cons_succ, List.getD_cons_zero]
        clear hd
        refine GH.st_eq (by rfl) ?_
        go_simp
        (try with_reducible rfl)
      | 4, _, hd =>
        simp only [GH.mkL, List.getD_cons_succ, List.getD_cons_zero]
        have d2 : S 2 = .slice A1 n1 c1 := (hd 2 (by kernel_rfl)).2
        rw [d2]
        clear d2
        have d3 : S 3 = .int .i64 (i : Nat) := (hd 3 (by kernel_rfl)).2
        rw [d3]
        clear d3
        clear hd
        refine GH.st_eq (by rfl) ?_
        rw [EA.out]
        go_simp
        (try with_reducible rfl)
      | 5, _, hd =>
        simp only [GH.mkL, List.getD_cons_succ, List.getD_cons_zero]
        have d4 : S 4 = .pointer (some ⟨ab, ao + i * 2, none⟩) := (hd 4 (by kernel_rfl)).2
        rw [d4]
        clear d4
        clear hd
        exact GH.st_loads _ [.int .u8 (ko : Nat), .slice qA qn qc] (by rfl) rfl rfl (cells_two (hb.at_ hab P0.out) (hb.at_ hab P1.out)) (by kernel_rfl) (by kernel_rfl)
      | 6, _, hd =>
        simp only [GH.mkL, List.getD_cons_succ, List.getD_cons_zero]
        have d0 : S 0 = .agg #[.int .u16 (g.src : Int), .int .u16 (g.dst : Int), .int .u32 (g.seq : Int), .int .u32 (g.ack : Int), .int .u8 (g.flags : Int), .slice A1 n1 c1, .slice D m d] := (hd 0 (by kernel_rfl)).2
        rw [d0]
        clear d0
        have d5 : S 5 = .agg #[.int .u8 (ko : Nat), .slice qA qn qc] := (hd 5 (by kernel_rfl)).2
        rw [d5]
        clear d5
        clear hd
        refine GH.st_call (by rfl) hb.below.size (by go_simp) ((mcover_any _ g qA qn qc ko ql w' (HCI.out.gr hb)).mono ?_)
        rintro e w9 ⟨⟨A9, n9, c9, rfl, e9, l9, h9⟩, hb9⟩
        exact ⟨_, rfl, hb9, ⟨_, _, _, rfl, e9, l9, h9⟩⟩
      | 7, _, hd =>
        simp only [GH.mkL, List.getD_cons_succ, List.getD_cons_zero]
        obtain ⟨A6, n6, c6, d6, e6, l6, H6⟩ := (hd 6 (by kernel_rfl)).2
        rw [d6]
        clear d6
        replace H6 := Lib.hid H6
        replace l6 := Lib.hid l6
        clear hd
        exact GH.st_conv Try.underlying28 Try.underlying5 Try.underlying9 _ (by rfl) rfl rfl H6.out
      | 8, _, hd =>
        simp only [GH.mkL, List.getD_cons_succ, List.getD_cons_zero]
        clear hd
        exact GH.st_loads _ [.int .u16 (g.src : Int), .int .u16 (g.dst : Int), .int .u32 (g.seq : Int), .int .u32 (g.ack : Int), .int .u8 (g.flags : Int), .slice A1 n1 c1, .slice D m d] (by rfl) rfl rfl (((KS.out.below hb.below KS.out.lt)).loads 0 _ (by rfl)) (by kernel_rfl) (by kernel_rfl)
      | 9, _, hd =>
        simp only [GH.mkL, List.getD_cons_succ, List.getD_cons_zero]
        clear hd
        refine GH.st_eq (by rfl) ?_
        go_simp
        (try with_reducible rfl)
      | 10, _, hd =>
        simp only [GH.mkL, List.getD_cons_succ, List.getD_cons_zero]
        have d9 : S 9 = .pointer (some ⟨w.heap.size + 1, 5, none⟩) := (hd 9 (by kernel_rfl)).2
        rw [d9]
        clear d9
        clear hd
        exact GH.st_load _ (by rfl) rfl rfl (((KS.out.below hb.below KS.out.lt)).cell 5) (by kernel_rfl)
      | 11, _, hd =>
        simp only [GH.mkL, List.getD_cons_succ, List.getD_cons_zero]
        clear hd
        refine GH.st_eq (by rfl) ?_
        go_simp
        (try with_reducible rfl)
      | 12, _, hd =>
        simp only [GH.mkL, List.getD_cons_succ, List.getD_cons_zero]
        have d10 : S 10 = .slice A1 n1 c1 := (hd 10 (by kernel_rfl)).2
        rw [d10]
        clear d10
        have d11 : S 11 = .int .i64 (i : Nat) := (hd 11 (by kernel_rfl)).2
        rw [d11]
        clear d11
        clear hd
        refine GH.st_eq (by rfl) ?_
        rw [EA.out]
        go_simp
        (try with_reducible rfl)
      | 13, _, hd =>
        simp only [GH.mkL, List.getD_cons_succ, List.getD_cons_zero]
        have d12 : S 12 = .pointer (some ⟨ab, ao + i * 2, none⟩) := (hd 12 (by kernel_rfl)).2
        rw [d12]
        clear d12
        clear hd
        refine GH.st_eq (by rfl) ?_
        go_simp
        (try with_reducible rfl)
      | 14, _, hd =>
        simp only [GH.mkL, List.getD_cons_succ, List.getD_cons_zero]
        have d13 : S 13 = .pointer (some ⟨ab, ao + i * 2, none⟩) := (hd 13 (by kernel_rfl)).2
        rw [d13]
        clear d13
        clear hd
        exact GH.st_load _ (by rfl) rfl rfl (hb.at_ hab P0.out) (by kernel_rfl)
      | 15, _, hd =>
        simp only [GH.mkL, List.getD_cons_succ, List.getD_cons_zero]
        clear hd
        refine GH.st_eq (by rfl) ?_
        go_simp
        (try with_reducible rfl)
      | 16, _, hd =>
        simp only [GH.mkL, List.getD_cons_succ, List.getD_cons_zero]
        have d15 : S 15 = .pointer (some ⟨w.heap.size + 1, 5, none⟩) := (hd 15 (by kernel_rfl)).2
        rw [d15]
        clear d15
        clear hd
        exact GH.st_load _ (by rfl) rfl rfl (((KS.out.below hb.below KS.out.lt)).cell 5) (by kernel_rfl)
      | 17, _, hd =>
        simp only [GH.mkL, List.getD_cons_succ, List.getD_cons_zero]
        clear hd
        refine GH.st_eq (by rfl) ?_
        go_simp
        (try with_reducible rfl)
      | 18, _, hd =>
        simp only [GH.mkL, List.getD_cons_succ, List.getD_cons_zero]
        have d16 : S 16 = .slice A1 n1 c1 := (hd 16 (by kernel_rfl)).2
        rw [d16]
        clear d16
        have d17 : S 17 = .int .i64 (i : Nat) := (hd 17 (by kernel_rfl)).2
        rw [d17]
        clear d17
        clear hd
        refine GH.st_eq (by rfl) ?_
        rw [EA.out]
        go_simp
        (try with_reducible rfl)
      | 19, _, hd =>
        simp only [GH.mkL, List.getD_cons_succ, List.getD_cons_zero]
        have d18 : S 18 = .pointer (some ⟨ab, ao + i * 2, none⟩) := (hd 18 (by kernel_rfl)).2
        rw [d18]
        clear d18
        clear hd
        refine GH.st_eq (by rfl) ?_
        go_simp
        (try with_reducible rfl)
      | 20, _, hd =>
        simp only [GH.mkL, List.getD_cons_succ, List.getD_cons_zero]
        have d19 : S 19 = .pointer (some ⟨ab, ao + i * 2 + 1, none⟩) := (hd 19 (by kernel_rfl)).2
        rw [d19]
        clear d19
        clear hd
        exact GH.st_load _ (by rfl) rfl rfl (hb.at_ hab P1.out) (by kernel_rfl)
      | 21, _, hd =>
        simp only [GH.mkL, List.getD_cons_succ, List.getD_cons_zero]
        obtain ⟨A6, n6, c6, d6, e6, l6, H6⟩ := (hd 6 (by kernel_rfl)).2
        rw [d6]
        clear d6
        replace H6 := Lib.hid H6
        replace l6 := Lib.hid l6
        have d8 : S 8 = .agg #[.int .u16 (g.src : Int), .int .u16 (g.dst : Int), .int .u32 (g.seq : Int), .int .u32 (g.ack : Int), .int .u8 (g.flags : Int), .slice A1 n1 c1, .slice D m d] := (hd 8 (by kernel_rfl)).2
        rw [d8]
        clear d8
        have d14 : S 14 = .int .u8 (ko : Nat) := (hd 14 (by kernel_rfl)).2
        rw [d14]
        clear d14
        have d20 : S 20 = .slice qA qn qc := (hd 20 (by kernel_rfl)).2
        rw [d20]
        clear d20
        clear hd
        refine GH.st_call (by rfl) hb.below.size (by go_simp) ((rcover_any _ g qA qn qc ko ql w' (HCI.out.gr hb)).mono ?_)
        rintro e w9 ⟨v, rfl, hN, hb9⟩
        exact ⟨_, rfl, hb9, GH.ns_of_own hN⟩
      | 22, _, hd =>
        simp only [GH.mkL, List.getD_cons_succ, List.getD_cons_zero]
        obtain ⟨A21, n21, c21, d21, e21, l21, H21⟩ := (hd 21 (by kernel_rfl)).2
        rw [d21]
        clear d21
        replace H21 := Lib.hid H21
        replace l21 := Lib.hid l21
        clear hd
        exact GH.st_conv Try.underlying28 Try.underlying5 Try.underlying9 _ (by rfl) rfl rfl H21.out
      | 23, _, hd =>
        simp only [GH.mkL, List.getD_cons_succ, List.getD_cons_zero]
        have d7 : S 7 = .string (strN (coverL g ko ql)) := (hd 7 (by kernel_rfl)).2
        rw [d7]
        clear d7
        have d22 : S 22 = .string (strN (coverL g ko ql)) := (hd 22 (by kernel_rfl)).2
        rw [d22]
        clear d22
        clear hd
        refine GH.st_eq (by rfl) ?_
        go_simp
        (try with_reducible rfl)
      | nx + 24, hjx, _ => omega
    intro S w' hb hG
    simp only [GH.mkL, List.drop_succ_cons, List.drop_zero]
    have d23 : S 23 = .bool false := hG 23 (by omega)
    rw [d23]
    clear d23
    clear hG
    have BR := Lib.hid (hbw.out.trans (hb.below.mono hbw.out.size))
    clear hb hbw
    refine wpList_nil ?_
    go_wp2_with fail
    go_roundw
    case rel => exact ⟨i + 1, by have := HLT.out; omega, by go_num, BR⟩
    case measure =>
      have := HLT.out
      simp [intOf]
      omega
  · obtain rfl : n1 = i := by omega
    clear hlt hbw
    have HPK : Hid ((∀ x ∈ keyP kk, x < 256) ∧ (∀ x ∈ joinP tk nc id bk, x < 256) ∧ (∀ x ∈ dataP f p sq ak wn, x < 256) ∧ ∀ x ∈ wordP nm wi pa wb, x < 256) := Lib.hid ⟨pre_byte (t := 0) (by rw [← keyP_eq]; exact keyB_byte _ _ _), pre_byte (t := 0) (by rw [← joinP_eq]; exact fun x hx => joinB_byte HX.out.1.2.2.2.2.1 x hx), pre_byte (t := 0) (by rw [← dataP_eq]; exact dataB_byte _ _ _ _ _ _), pre_byte (t := 0) (by rw [← wordP_eq]; exact fun x hx => wordB_byte HX.out.2.2.2.2.1 HX.out.2.2.2.2.2.1 x hx)⟩
    have HRK : Hid (∀ w', Calls Try.prog 17 #[.int .u64 (kk : Nat), .int .u64 0, .bool true] w' fun e w'' => ByPost (keyB kk 0 true) w'.heap.size w'' e ∧ Below w'.heap.size w' w'') := Lib.hid (fun w' => rkey_any kk 0 true w' HX.out.1.1 (by unfold q64; decide))
    have HRJ : Hid (∀ w', Calls Try.prog 18 #[.agg #[.int .u32 (tk : Nat), .int .u32 (nc : Nat), .int .u8 (id : Nat), .bool bk, .bool true, .int .u64 0]] w' fun e w'' => ByPost (joinB tk nc id bk true 0) w'.heap.size w'' e ∧ Below w'.heap.size w' w'') := Lib.hid (fun w' => rjoin_any tk nc id 0 bk true w' HX.out.1.2.2.1 HX.out.1.2.2.2.1 HX.out.1.2.2.2.2.1 (by unfold q64; decide))
    have HRD : Hid (∀ w', Calls Try.prog 19 #[.agg #[.bool f, .bool p, .int .u64 (sq : Nat), .int .u64 (ak : Nat), .int .u32 (wn : Nat), .int .u64 0]] w' fun e w'' => ByPost (dataB f p sq ak wn 0) w'.heap.size w'' e ∧ Below w'.heap.size w' w'') := Lib.hid (fun w' => rdata_any f p sq ak wn 0 w' HX.out.2.1.1 HX.out.2.1.2.1 HX.out.2.1.2.2.1 (by unfold q64; decide))
    have HRW : Hid (∀ w', Calls Try.prog 20 #[.agg #[.int .u32 (nm : Nat), .int .u8 (wi : Nat), .int .u8 (pa : Nat), .bool wb, .int .u64 0]] w' fun e w'' => ByPost (wordB nm wi pa wb 0) w'.heap.size w'' e ∧ Below w'.heap.size w' w'') := Lib.hid (fun w' => rword_any nm wi pa 0 wb w' HX.out.2.2.2.1 HX.out.2.2.2.2.1 HX.out.2.2.2.2.2.1 (by unfold q64; decide))
    go_upto_region 11 with fail
    refine GH.wp_ghl (M := false) 8 ((GH.SP.eq (.agg #[.int .u64 (k0 : Nat), .int .u64 (k1 : Nat)])) :: (GH.SP.eq (.agg #[.int .u16 (g.src : Int), .int .u16 (g.dst : Int), .int .u32 (g.seq : Int), .int .u32 (g.ack : Int), .int .u8 (g.flags : Int), .slice A1 n1 c1, .slice D m d])) :: (GH.SP.eq (.pointer (some ⟨w.heap.size + 2, 0, none⟩))) :: (GH.SP.eq (.pointer (some ⟨w.heap.size + 2, 0, none⟩))) :: (GH.SP.eq (.int .u64 (kk : Nat))) :: (GH.SP.ns .u8 (keyP kk ++ be 0 8)) :: (GH.SP.ns .u8 (keyP kk ++ be (tagN k0 k1 g 1 (keyP kk ++ be kt 8)) 8)) :: (GH.SP.ns .u8 (keyP kk ++ be (tagN k0 k1 g 1 (keyP kk ++ be kt 8)) 8)) :: []) (none :: none :: none :: none :: none :: none :: none :: none :: none :: (some 7) :: none :: none :: none :: none :: none :: none :: none :: none :: none :: none :: none :: none :: none :: none :: none :: none :: none :: none :: none :: none :: none :: none :: none :: none :: none :: none :: none :: none :: none :: none :: none :: none :: none :: none :: none :: none :: none :: none :: none :: none :: none :: none :: none :: none :: none :: none :: none :: none :: none :: none :: none :: none :: none :: none :: none :: none :: none :: none :: none :: none :: none :: none :: none :: none :: none :: none :: none :: none :: none :: none :: none :: none :: none :: none :: none :: none :: none :: none :: none :: none :: none :: none :: none :: none :: none :: none :: none :: none :: none :: none :: none :: (some 0) :: (some 1) :: (some 2) :: (some 3) :: (some 4) :: (some 5) :: (some 6) :: none :: none :: none :: none :: none :: none :: none :: none :: none :: none :: none :: none :: none :: none :: none :: none :: none :: none :: none :: none :: none :: none :: none :: none :: none :: none :: none :: none :: none :: none :: none :: none :: none :: none :: none :: none :: none :: none :: none :: none :: none :: none :: none :: none :: none :: none :: none :: none :: none :: none :: none :: none :: none :: none :: none :: none :: none :: none :: none :: none :: none :: none :: none :: none :: none :: none :: none :: none :: none :: none :: none :: none :: none :: none :: none :: none :: none :: none :: none :: none :: none :: none :: none :: none :: none :: none :: none :: none :: none :: none :: none :: none :: none :: none :: none :: none :: none :: none :: none :: none :: []) [101, 102, 103, 104, 105, 106, 107, 9] (by rfl) (by kernel_rfl) (by kernel_rfl) ?_ ?_ ?_
    · intro S jx v hjx
      match jx, hjx with
      | 0, _ => rfl
      | 1, _ => rfl
      | 2, _ => rfl
      | 3, _ => rfl
      | 4, _ => rfl
      | 5, _ => rfl
      | 6, _ => rfl
      | 7, _ => rfl
      | nx + 8, hjx => omega
    · intro jx hjx S w' hb hd
      match jx, hjx, hd with
      | 0, _, hd =>
        simp only [GH.mkL, List.getD_cons_succ, List.getD_cons_zero]
        clear hd
        exact GH.st_loads _ [.int .u64 (k0 : Nat), .int .u64 (k1 : Nat)] (by rfl) rfl rfl (((KB.out.below hb.below KB.out.lt)).loads 0 _ (by rfl)) (by kernel_rfl) (by kernel_rfl)
      | 1, _, hd =>
        simp only [GH.mkL, List.getD_cons_succ, List.getD_cons_zero]
        clear hd
        exact GH.st_loads _ [.int .u16 (g.src : Int), .int .u16 (g.dst : Int), .int .u32 (g.seq : Int), .int .u32 (g.ack : Int), .int .u8 (g.flags : Int), .slice A1 n1 c1, .slice D m d] (by rfl) rfl rfl (((KS.out.below hb.below KS.out.lt)).loads 0 _ (by rfl)) (by kernel_rfl) (by kernel_rfl)
      | 2, _, hd =>
        simp only [GH.mkL, List.getD_cons_succ, List.getD_cons_zero]
        clear hd
        refine GH.st_eq (by rfl) ?_
        go_simp
        (try with_reducible rfl)
      | 3, _, hd =>
        simp only [GH.mkL, List.getD_cons_succ, List.getD_cons_zero]
        have d2 : S 2 = .pointer (some ⟨w.heap.size + 2, 0, none⟩) := (hd 2 (by kernel_rfl)).2
        rw [d2]
        clear d2
        clear hd
        refine GH.st_eq (by rfl) ?_
        go_simp
        (try with_reducible rfl)
      | 4, _, hd =>
        simp only [GH.mkL, List.getD_cons_succ, List.getD_cons_zero]
        have d3 : S 3 = .pointer (some ⟨w.heap.size + 2, 0, none⟩) := (hd 3 (by kernel_rfl)).2
        rw [d3]
        clear d3
        clear hd
        exact GH.st_load _ (by rfl) rfl rfl (((KX.out.below hb.below KX.out.lt)).cell 0) (by kernel_rfl)
      | 5, _, hd =>
        simp only [GH.mkL, List.getD_cons_succ, List.getD_cons_zero]
        have d4 : S 4 = .int .u64 (kk : Nat) := (hd 4 (by kernel_rfl)).2
        rw [d4]
        clear d4
        clear hd
        refine GH.st_call (by rfl) hb.below.size (by go_simp) ((HRK.out w').mono ?_)
        rintro e w9 ⟨⟨v, rfl, hN⟩, hb9⟩
        exact ⟨_, rfl, hb9, (by rw [keyP_eq] at hN; exact GH.ns_of_own hN)⟩
      | 6, _, hd =>
        simp only [GH.mkL, List.getD_cons_succ, List.getD_cons_zero]
        have d0 : S 0 = .agg #[.int .u64 (k0 : Nat), .int .u64 (k1 : Nat)] := (hd 0 (by kernel_rfl)).2
        rw [d0]
        clear d0
        have d1 : S 1 = .agg #[.int .u16 (g.src : Int), .int .u16 (g.dst : Int), .int .u32 (g.seq : Int), .int .u32 (g.ack : Int), .int .u8 (g.flags : Int), .slice A1 n1 c1, .slice D m d] := (hd 1 (by kernel_rfl)).2
        rw [d1]
        clear d1
        obtain ⟨A5, n5, c5, d5, e5, l5, H5⟩ := (hd 5 (by kernel_rfl)).2
        rw [d5]
        clear d5
        replace H5 := Lib.hid H5
        replace l5 := Lib.hid l5
        clear hd
        refine GH.st_call (by rfl) hb.below.size (by go_simp) ((rsealed_row k0 k1 _ g (keyP kk) 0 kt 1 n5 c5 A5 w' h0 h1 (HS.out.gr hb) HG.out HM.out.data H5.out e5 (by simp [keyP, joinP, dataP, wordP, be_len]) HPK.out.1 (by decide)).mono ?_)
        rintro e w9 ⟨⟨v, rfl, hN⟩, hb9⟩
        exact ⟨_, rfl, hb9, GH.ns_of_own hN⟩
      | 7, _, hd =>
        simp only [GH.mkL, List.getD_cons_succ, List.getD_cons_zero]
        have d0 : S 0 = .agg #[.int .u64 (k0 : Nat), .int .u64 (k1 : Nat)] := (hd 0 (by kernel_rfl)).2
        rw [d0]
        clear d0
        have d1 : S 1 = .agg #[.int .u16 (g.src : Int), .int .u16 (g.dst : Int), .int .u32 (g.seq : Int), .int .u32 (g.ack : Int), .int .u8 (g.flags : Int), .slice A1 n1 c1, .slice D m d] := (hd 1 (by kernel_rfl)).2
        rw [d1]
        clear d1
        have d2 : S 2 = .pointer (some ⟨w.heap.size + 2, 0, none⟩) := (hd 2 (by kernel_rfl)).2
        rw [d2]
        clear d2
        have d3 : S 3 = .pointer (some ⟨w.heap.size + 2, 0, none⟩) := (hd 3 (by kernel_rfl)).2
        rw [d3]
        clear d3
        have d4 : S 4 = .int .u64 (kk : Nat) := (hd 4 (by kernel_rfl)).2
        rw [d4]
        clear d4
        obtain ⟨A5, n5, c5, d5, e5, l5, H5⟩ := (hd 5 (by kernel_rfl)).2
        rw [d5]
        clear d5
        replace H5 := Lib.hid H5
        replace l5 := Lib.hid l5
        obtain ⟨A6, n6, c6, d6, e6, l6, H6⟩ := (hd 6 (by kernel_rfl)).2
        rw [d6]
        clear d6
        replace H6 := Lib.hid H6
        replace l6 := Lib.hid l6
        clear hd
        exact GH.st_val (by rfl) (by go_simp) ⟨_, _, _, rfl, e6, l6.out, H6.out⟩
      | nx + 8, hjx, _ => omega
    intro S w' hb hG
    simp only [GH.mkL, List.drop_succ_cons, List.drop_zero]
    obtain ⟨A7, n7, c7, d7, e7, l7, H7⟩ := hG 7 (by omega)
    rw [d7]
    clear d7
    replace H7 := Lib.hid H7
    replace l7 := Lib.hid l7
    clear hG
    have bh : Below wr.heap.size wr w' := hb.below
    replace KB := Lib.hid (KB.out.below bh KB.out.lt)
    replace KS := Lib.hid (KS.out.below bh KS.out.lt)
    replace KX := Lib.hid (KX.out.below bh KX.out.lt)
    replace HS := Lib.hid (HS.out.into bh)
    replace HO := Lib.hid (HO.out.into bh)
    replace b1 := Lib.hid (b1.out.trans (bh.mono b1.out.size))
    clear bh
    clear hb
    have RRk : Hid (Rd w' w'.heap.size 1 A7 n7 (ns .u8 (keyP kk ++ be (tagN k0 k1 g 1 (keyP kk ++ be kt 8)) 8))) := H7
    clear H7 e7 l7
    generalize A7 = Ak at *
    generalize n7 = nk at *
    generalize c7 = ck at *
    generalize w' = w7 at *
    refine wpList_nil ?_
    have y3 : w7.cell? ⟨w.heap.size + 2, 3, none⟩ = some (.int .u32 (tk : Nat)) := by rw [KX.out.cell]; rfl
    have y4 : w7.cell? ⟨w.heap.size + 2, 4, none⟩ = some (.int .u32 (nc : Nat)) := by rw [KX.out.cell]; rfl
    have y5 : w7.cell? ⟨w.heap.size + 2, 5, none⟩ = some (.int .u8 (id : Nat)) := by rw [KX.out.cell]; rfl
    have y6 : w7.cell? ⟨w.heap.size + 2, 6, none⟩ = some (.bool bk) := by rw [KX.out.cell]; rfl
    go_upto_region 13 with fail
    clear y3 y4 y5 y6
    have bh := (Below.refl w7.heap.size w7).alloc (Nat.le_refl _) (.cells #[.int .u32 (tk : Nat), .int .u32 (nc : Nat), .int .u8 (id : Nat), .bool bk, .bool true, .int .u64 0] 55)
    have KP := Lib.hid (Blk.new w7 55 #[.int .u32 (tk : Nat), .int .u32 (nc : Nat), .int .u8 (id : Nat), .bool bk, .bool true, .int .u64 0])
    replace RRk := Lib.hid (RRk.out.into bh)
    replace KB := Lib.hid (KB.out.below bh KB.out.lt)
    replace KS := Lib.hid (KS.out.below bh KS.out.lt)
    replace KX := Lib.hid (KX.out.below bh KX.out.lt)
    replace HS := Lib.hid (HS.out.into bh)
    replace HO := Lib.hid (HO.out.into bh)
    replace b1 := Lib.hid (b1.out.trans (bh.mono b1.out.size))
    clear bh
    obtain ⟨ob, hob⟩ : ∃ ob, ob = w7.heap.size := ⟨_, rfl⟩
    rw [← hob] at KP ⊢
    clear hob
    generalize w7.alloc (.cells #[.int .u32 (tk : Nat), .int .u32 (nc : Nat), .int .u8 (id : Nat), .bool bk, .bool true, .int .u64 0] 55) = w8 at *
    refine GH.wp_ghl (M := false) 6 ((GH.SP.eq (.agg #[.int .u64 (k0 : Nat), .int .u64 (k1 : Nat)])) :: (GH.SP.eq (.agg #[.int .u16 (g.src : Int), .int .u16 (g.dst : Int), .int .u32 (g.seq : Int), .int .u32 (g.ack : Int), .int .u8 (g.flags : Int), .slice A1 n1 c1, .slice D m d])) :: (GH.SP.eq (.agg #[.int .u32 (tk : Nat), .int .u32 (nc : Nat), .int .u8 (id : Nat), .bool bk, .bool true, .int .u64 0])) :: (GH.SP.ns .u8 (joinP tk nc id bk ++ be 0 8)) :: (GH.SP.ns .u8 (joinP tk nc id bk ++ be (tagN k0 k1 g 2 (joinP tk nc id bk ++ be jt 8)) 8)) :: (GH.SP.ns .u8 (joinP tk nc id bk ++ be (tagN k0 k1 g 2 (joinP tk nc id bk ++ be jt 8)) 8)) :: []) (none :: none :: none :: none :: none :: none :: none :: none :: none :: none :: none :: (some 5) :: none :: none :: none :: none :: none :: none :: none :: none :: none :: none :: none :: none :: none :: none :: none :: none :: none :: none :: none :: none :: none :: none :: none :: none :: none :: none :: none :: none :: none :: none :: none :: none :: none :: none :: none :: none :: none :: none :: none :: none :: none :: none :: none :: none :: none :: none :: none :: none :: none :: none :: none :: none :: none :: none :: none :: none :: none :: none :: none :: none :: none :: none :: none :: none :: none :: none :: none :: none :: none :: none :: none :: none :: none :: none :: none :: none :: none :: none :: none :: none :: none :: none :: none :: none :: none :: none :: none :: none :: none :: none :: none :: none :: none :: none :: none :: none :: none :: none :: none :: none :: none :: none :: none :: none :: none :: none :: none :: none :: none :: (some 0) :: (some 1) :: (some 2) :: (some 3) :: (some 4) :: none :: none :: none :: none :: none :: none :: none :: none :: none :: none :: none :: none :: none :: none :: none :: none :: none :: none :: none :: none :: none :: none :: none :: none :: none :: none :: none :: none :: none :: none :: none :: none :: none :: none :: none :: none :: none :: none :: none :: none :: none :: none :: none :: none :: none :: none :: none :: none :: none :: none :: none :: none :: none :: none :: none :: none :: none :: none :: none :: none :: none :: none :: none :: none :: none :: none :: none :: none :: none :: none :: none :: none :: none :: none :: none :: none :: none :: none :: none :: none :: none :: none :: []) [121, 122, 123, 124, 125, 11] (by rfl) (by kernel_rfl) (by kernel_rfl) ?_ ?_ ?_
    · intro S jx v hjx
      match jx, hjx with
      | 0, _ => rfl
      | 1, _ => rfl
      | 2, _ => rfl
      | 3, _ => rfl
      | 4, _ => rfl
      | 5, _ => rfl
      | nx + 6, hjx => omega
    · intro jx hjx S w' hb hd
      match jx, hjx, hd with
      | 0, _, hd =>
        simp only [GH.mkL, List.getD_cons_succ, List.getD_cons_zero]
        clear hd
        exact GH.st_loads _ [.int .u64 (k0 : Nat), .int .u64 (k1 : Nat)] (by rfl) rfl rfl (((KB.out.below hb.below KB.out.lt)).loads 0 _ (by rfl)) (by kernel_rfl) (by kernel_rfl)
      | 1, _, hd =>
        simp only [GH.mkL, List.getD_cons_succ, List.getD_cons_zero]
        clear hd
        exact GH.st_loads _ [.int .u16 (g.src : Int), .int .u16 (g.dst : Int), .int .u32 (g.seq : Int), .int .u32 (g.ack : Int), .int .u8 (g.flags : Int), .slice A1 n1 c1, .slice D m d] (by rfl) rfl rfl (((KS.out.below hb.below KS.out.lt)).loads 0 _ (by rfl)) (by kernel_rfl) (by kernel_rfl)
      | 2, _, hd =>
        simp only [GH.mkL, List.getD_cons_succ, List.getD_cons_zero]
        clear hd
        exact GH.st_loads _ [.int .u32 (tk : Nat), .int .u32 (nc : Nat), .int .u8 (id : Nat), .bool bk, .bool true, .int .u64 0] (by rfl) rfl rfl (((KP.out.below hb.below KP.out.lt)).loads 0 _ (by rfl)) (by kernel_rfl) (by kernel_rfl)
      | 3, _, hd =>
        simp only [GH.mkL, List.getD_cons_succ, List.getD_cons_zero]
        have d2 : S 2 = .agg #[.int .u32 (tk : Nat), .int .u32 (nc : Nat), .int .u8 (id : Nat), .bool bk, .bool true, .int .u64 0] := (hd 2 (by kernel_rfl)).2
        rw [d2]
        clear d2
        clear hd
        refine GH.st_call (by rfl) hb.below.size (by go_simp) ((HRJ.out w').mono ?_)
        rintro e w9 ⟨⟨v, rfl, hN⟩, hb9⟩
        exact ⟨_, rfl, hb9, (by rw [joinP_eq] at hN; exact GH.ns_of_own hN)⟩
      | 4, _, hd =>
        simp only [GH.mkL, List.getD_cons_succ, List.getD_cons_zero]
        have d0 : S 0 = .agg #[.int .u64 (k0 : Nat), .int .u64 (k1 : Nat)] := (hd 0 (by kernel_rfl)).2
        rw [d0]
        clear d0
        have d1 : S 1 = .agg #[.int .u16 (g.src : Int), .int .u16 (g.dst : Int), .int .u32 (g.seq : Int), .int .u32 (g.ack : Int), .int .u8 (g.flags : Int), .slice A1 n1 c1, .slice D m d] := (hd 1 (by kernel_rfl)).2
        rw [d1]
        clear d1
        obtain ⟨A3, n3, c3, d3, e3, l3, H3⟩ := (hd 3 (by kernel_rfl)).2
        rw [d3]
        clear d3
        replace H3 := Lib.hid H3
        replace l3 := Lib.hid l3
        clear hd
        refine GH.st_call (by rfl) hb.below.size (by go_simp) ((rsealed_row k0 k1 _ g (joinP tk nc id bk) 0 jt 2 n3 c3 A3 w' h0 h1 (HS.out.gr hb) HG.out HM.out.data H3.out e3 (by simp [keyP, joinP, dataP, wordP, be_len]) HPK.out.2.1 (by decide)).mono ?_)
        rintro e w9 ⟨⟨v, rfl, hN⟩, hb9⟩
        exact ⟨_, rfl, hb9, GH.ns_of_own hN⟩
      | 5, _, hd =>
        simp only [GH.mkL, List.getD_cons_succ, List.getD_cons_zero]
        have d0 : S 0 = .agg #[.int .u64 (k0 : Nat), .int .u64 (k1 : Nat)] := (hd 0 (by kernel_rfl)).2
        rw [d0]
        clear d0
        have d1 : S 1 = .agg #[.int .u16 (g.src : Int), .int .u16 (g.dst : Int), .int .u32 (g.seq : Int), .int .u32 (g.ack : Int), .int .u8 (g.flags : Int), .slice A1 n1 c1, .slice D m d] := (hd 1 (by kernel_rfl)).2
        rw [d1]
        clear d1
        have d2 : S 2 = .agg #[.int .u32 (tk : Nat), .int .u32 (nc : Nat), .int .u8 (id : Nat), .bool bk, .bool true, .int .u64 0] := (hd 2 (by kernel_rfl)).2
        rw [d2]
        clear d2
        obtain ⟨A3, n3, c3, d3, e3, l3, H3⟩ := (hd 3 (by kernel_rfl)).2
        rw [d3]
        clear d3
        replace H3 := Lib.hid H3
        replace l3 := Lib.hid l3
        obtain ⟨A4, n4, c4, d4, e4, l4, H4⟩ := (hd 4 (by kernel_rfl)).2
        rw [d4]
        clear d4
        replace H4 := Lib.hid H4
        replace l4 := Lib.hid l4
        clear hd
        exact GH.st_val (by rfl) (by go_simp) ⟨_, _, _, rfl, e4, l4.out, H4.out⟩
      | nx + 6, hjx, _ => omega
    intro S w' hb hG
    simp only [GH.mkL, List.drop_succ_cons, List.drop_zero]
    obtain ⟨A5, n5, c5, d5, e5, l5, H5⟩ := hG 5 (by omega)
    rw [d5]
    clear d5
    replace H5 := Lib.hid H5
    replace l5 := Lib.hid l5
    clear hG
    clear KP
    have bh : Below w8.heap.size w8 w' := hb.below
    replace KB := Lib.hid (KB.out.below bh KB.out.lt)
    replace KS := Lib.hid (KS.out.below bh KS.out.lt)
    replace KX := Lib.hid (KX.out.below bh KX.out.lt)
    replace HS := Lib.hid (HS.out.into bh)
    replace HO := Lib.hid (HO.out.into bh)
    replace b1 := Lib.hid (b1.out.trans (bh.mono b1.out.size))
    clear bh
    replace RRk := Lib.hid (RRk.out.gr hb)
    clear hb
    have RRj : Hid (Rd w' w'.heap.size 1 A5 n5 (ns .u8 (joinP tk nc id bk ++ be (tagN k0 k1 g 2 (joinP tk nc id bk ++ be jt 8)) 8))) := H5
    clear H5 e5 l5
    generalize A5 = Aj at *
    generalize n5 = nj at *
    generalize c5 = cj at *
    generalize w' = w9 at *
    refine wpList_nil ?_
    have y9 : w9.cell? ⟨w.heap.size + 2, 9, none⟩ = some (.bool f) := by rw [KX.out.cell]; rfl
    have y10 : w9.cell? ⟨w.heap.size + 2, 10, none⟩ = some (.bool p) := by rw [KX.out.cell]; rfl
    have y11 : w9.cell? ⟨w.heap.size + 2, 11, none⟩ = some (.int .u64 (sq : Nat)) := by rw [KX.out.cell]; rfl
    have y12 : w9.cell? ⟨w.heap.size + 2, 12, none⟩ = some (.int .u64 (ak : Nat)) := by rw [KX.out.cell]; rfl
    have y13 : w9.cell? ⟨w.heap.size + 2, 13, none⟩ = some (.int .u32 (wn : Nat)) := by rw [KX.out.cell]; rfl
    go_upto_region 15 with fail
    clear y9 y10 y11 y12 y13
    have bh := (Below.refl w9.heap.size w9).alloc (Nat.le_refl _) (.cells #[.bool f, .bool p, .int .u64 (sq : Nat), .int .u64 (ak : Nat), .int .u32 (wn : Nat), .int .u64 0] 58)
    have KP := Lib.hid (Blk.new w9 58 #[.bool f, .bool p, .int .u64 (sq : Nat), .int .u64 (ak : Nat), .int .u32 (wn : Nat), .int .u64 0])
    replace RRk := Lib.hid (RRk.out.into bh)
    replace RRj := Lib.hid (RRj.out.into bh)
    replace KB := Lib.hid (KB.out.below bh KB.out.lt)
    replace KS := Lib.hid (KS.out.below bh KS.out.lt)
    replace KX := Lib.hid (KX.out.below bh KX.out.lt)
    replace HS := Lib.hid (HS.out.into bh)
    replace HO := Lib.hid (HO.out.into bh)
    replace b1 := Lib.hid (b1.out.trans (bh.mono b1.out.size))
    clear bh
    obtain ⟨ob, hob⟩ : ∃ ob, ob = w9.heap.size := ⟨_, rfl⟩
    rw [← hob] at KP ⊢
    clear hob
    generalize w9.alloc (.cells #[.bool f, .bool p, .int .u64 (sq : Nat), .int .u64 (ak : Nat), .int .u32 (wn : Nat), .int .u64 0] 58) = w10 at *
    refine GH.wp_ghl (M := false) 6 ((GH.SP.eq (.agg #[.int .u64 (k0 : Nat), .int .u64 (k1 : Nat)])) :: (GH.SP.eq (.agg #[.int .u16 (g.src : Int), .int .u16 (g.dst : Int), .int .u32 (g.seq : Int), .int .u32 (g.ack : Int), .int .u8 (g.flags : Int), .slice A1 n1 c1, .slice D m d])) :: (GH.SP.eq (.agg #[.bool f, .bool p, .int .u64 (sq : Nat), .int .u64 (ak : Nat), .int .u32 (wn : Nat), .int .u64 0])) :: (GH.SP.ns .u8 (dataP f p sq ak wn ++ be 0 8)) :: (GH.SP.ns .u8 (dataP f p sq ak wn ++ be (tagN k0 k1 g 3 (dataP f p sq ak wn ++ be dt 8)) 8)) :: (GH.SP.ns .u8 (dataP f p sq ak wn ++ be (tagN k0 k1 g 3 (dataP f p sq ak wn ++ be dt 8)) 8)) :: []) (none :: none :: none :: none :: none :: none :: none :: none :: none :: none :: none :: none :: none :: (some 5) :: none :: none :: none :: none :: none :: none :: none :: none :: none :: none :: none :: none :: none :: none :: none :: none :: none :: none :: none :: none :: none :: none :: none :: none :: none :: none :: none :: none :: none :: none :: none :: none :: none :: none :: none :: none :: none :: none :: none :: none :: none :: none :: none :: none :: none :: none :: none :: none :: none :: none :: none :: none :: none :: none :: none :: none :: none :: none :: none :: none :: none :: none :: none :: none :: none :: none :: none :: none :: none :: none :: none :: none :: none :: none :: none :: none :: none :: none :: none :: none :: none :: none :: none :: none :: none :: none :: none :: none :: none :: none :: none :: none :: none :: none :: none :: none :: none :: none :: none :: none :: none :: none :: none :: none :: none :: none :: none :: none :: none :: none :: none :: none :: none :: none :: none :: none :: none :: none :: none :: none :: none :: none :: none :: none :: none :: none :: none :: none :: (some 0) :: (some 1) :: (some 2) :: (some 3) :: (some 4) :: none :: none :: none :: none :: none :: none :: none :: none :: none :: none :: none :: none :: none :: none :: none :: none :: none :: none :: none :: none :: none :: none :: none :: none :: none :: none :: none :: none :: none :: none :: none :: none :: none :: none :: none :: none :: none :: none :: none :: none :: none :: none :: none :: none :: none :: none :: none :: none :: none :: none :: none :: none :: none :: none :: none :: none :: none :: none :: none :: none :: none :: []) [142, 143, 144, 145, 146, 13] (by rfl) (by kernel_rfl) (by kernel_rfl) ?_ ?_ ?_
    · intro S jx v hjx
      match jx, hjx with
      | 0, _ => rfl
      | 1, _ => rfl
      | 2, _ => rfl
      | 3, _ => rfl
      | 4, _ => rfl
      | 5, _ => rfl
      | nx + 6, hjx => omega
    · intro jx hjx S w' hb hd
      match jx, hjx, hd with
      | 0, _, hd =>
        simp only [GH.mkL, List.getD_cons_succ, List.getD_cons_zero]
        clear hd
        exact GH.st_loads _ [.int .u64 (k0 : Nat), .int .u64 (k1 : Nat)] (by rfl) rfl rfl (((KB.out.below hb.below KB.out.lt)).loads 0 _ (by rfl)) (by kernel_rfl) (by kernel_rfl)
      | 1, _, hd =>
        simp only [GH.mkL, List.getD_cons_succ, List.getD_cons_zero]
        clear hd
        exact GH.st_loads _ [.int .u16 (g.src : Int), .int .u16 (g.dst : Int), .int .u32 (g.seq : Int), .int .u32 (g.ack : Int), .int .u8 (g.flags : Int), .slice A1 n1 c1, .slice D m d] (by rfl) rfl rfl (((KS.out.below hb.below KS.out.lt)).loads 0 _ (by rfl)) (by kernel_rfl) (by kernel_rfl)
      | 2, _, hd =>
        simp only [GH.mkL, List.getD_cons_succ, List.getD_cons_zero]
        clear hd
        exact GH.st_loads _ [.bool f, .bool p, .int .u64 (sq : Nat), .int .u64 (ak : Nat), .int .u32 (wn : Nat), .int .u64 0] (by rfl) rfl rfl (((KP.out.below hb.below KP.out.lt)).loads 0 _ (by rfl)) (by kernel_rfl) (by kernel_rfl)
      | 3, _, hd =>
        simp only [GH.mkL, List.getD_cons_succ, List.getD_cons_zero]
        have d2 : S 2 = .agg #[.bool f, .bool p, .int .u64 (sq : Nat), .int .u64 (ak : Nat), .int .u32 (wn : Nat), .int .u64 0] := (hd 2 (by kernel_rfl)).2
        rw [d2]
        clear d2
        clear hd
        refine GH.st_call (by rfl) hb.below.size (by go_simp) ((HRD.out w').mono ?_)
        rintro e w9 ⟨⟨v, rfl, hN⟩, hb9⟩
        exact ⟨_, rfl, hb9, (by rw [dataP_eq] at hN; exact GH.ns_of_own hN)⟩
      | 4, _, hd =>
        simp only [GH.mkL, List.getD_cons_succ, List.getD_cons_zero]
        have d0 : S 0 = .agg #[.int .u64 (k0 : Nat), .int .u64 (k1 : Nat)] := (hd 0 (by kernel_rfl)).2
        rw [d0]
        clear d0
        have d1 : S 1 = .agg #[.int .u16 (g.src : Int), .int .u16 (g.dst : Int), .int .u32 (g.seq : Int), .int .u32 (g.ack : Int), .int .u8 (g.flags : Int), .slice A1 n1 c1, .slice D m d] := (hd 1 (by kernel_rfl)).2
        rw [d1]
        clear d1
        obtain ⟨A3, n3, c3, d3, e3, l3, H3⟩ := (hd 3 (by kernel_rfl)).2
        rw [d3]
        clear d3
        replace H3 := Lib.hid H3
        replace l3 := Lib.hid l3
        clear hd
        refine GH.st_call (by rfl) hb.below.size (by go_simp) ((rsealed_row k0 k1 _ g (dataP f p sq ak wn) 0 dt 3 n3 c3 A3 w' h0 h1 (HS.out.gr hb) HG.out HM.out.data H3.out e3 (by simp [keyP, joinP, dataP, wordP, be_len]) HPK.out.2.2.1 (by decide)).mono ?_)
        rintro e w9 ⟨⟨v, rfl, hN⟩, hb9⟩
        exact ⟨_, rfl, hb9, GH.ns_of_own hN⟩
      | 5, _, hd =>
        simp only [GH.mkL, List.getD_cons_succ, List.getD_cons_zero]
        have d0 : S 0 = .agg #[.int .u64 (k0 : Nat), .int .u64 (k1 : Nat)] := (hd 0 (by kernel_rfl)).2
        rw [d0]
        clear d0
        have d1 : S 1 = .agg #[.int .u16 (g.src : Int), .int .u16 (g.dst : Int), .int .u32 (g.seq : Int), .int .u32 (g.ack : Int), .int .u8 (g.flags : Int), .slice A1 n1 c1, .slice D m d] := (hd 1 (by kernel_rfl)).2
        rw [d1]
        clear d1
        have d2 : S 2 = .agg #[.bool f, .bool p, .int .u64 (sq : Nat), .int .u64 (ak : Nat), .int .u32 (wn : Nat), .int .u64 0] := (hd 2 (by kernel_rfl)).2
        rw [d2]
        clear d2
        obtain ⟨A3, n3, c3, d3, e3, l3, H3⟩ := (hd 3 (by kernel_rfl)).2
        rw [d3]
        clear d3
        replace H3 := Lib.hid H3
        replace l3 := Lib.hid l3
        obtain ⟨A4, n4, c4, d4, e4, l4, H4⟩ := (hd 4 (by kernel_rfl)).2
        rw [d4]
        clear d4
        replace H4 := Lib.hid H4
        replace l4 := Lib.hid l4
        clear hd
        exact GH.st_val (by rfl) (by go_simp) ⟨_, _, _, rfl, e4, l4.out, H4.out⟩
      | nx + 6, hjx, _ => omega
    intro S w' hb hG
    simp only [GH.mkL, List.drop_succ_cons, List.drop_zero]
    obtain ⟨A5, n5, c5, d5, e5, l5, H5⟩ := hG 5 (by omega)
    rw [d5]
    clear d5
    replace H5 := Lib.hid H5
    replace l5 := Lib.hid l5
    clear hG
    clear KP
    have bh : Below w10.heap.size w10 w' := hb.below
    replace KB := Lib.hid (KB.out.below bh KB.out.lt)
    replace KS := Lib.hid (KS.out.below bh KS.out.lt)
    replace KX := Lib.hid (KX.out.below bh KX.out.lt)
    replace HS := Lib.hid (HS.out.into bh)
    replace HO := Lib.hid (HO.out.into bh)
    replace b1 := Lib.hid (b1.out.trans (bh.mono b1.out.size))
    clear bh
    replace RRk := Lib.hid (RRk.out.gr hb)
    replace RRj := Lib.hid (RRj.out.gr hb)
    clear hb
    have RRd : Hid (Rd w' w'.heap.size 1 A5 n5 (ns .u8 (dataP f p sq ak wn ++ be (tagN k0 k1 g 3 (dataP f p sq ak wn ++ be dt 8)) 8))) := H5
    clear H5 e5 l5
    generalize A5 = Ad at *
    generalize n5 = nd at *
    generalize c5 = cd at *
    generalize w' = w11 at *
    refine wpList_nil ?_
    have y16 : w11.cell? ⟨w.heap.size + 2, 16, none⟩ = some (.int .u32 (nm : Nat)) := by rw [KX.out.cell]; rfl
    have y17 : w11.cell? ⟨w.heap.size + 2, 17, none⟩ = some (.int .u8 (wi : Nat)) := by rw [KX.out.cell]; rfl
    have y18 : w11.cell? ⟨w.heap.size + 2, 18, none⟩ = some (.int .u8 (pa : Nat)) := by rw [KX.out.cell]; rfl
    have y19 : w11.cell? ⟨w.heap.size + 2, 19, none⟩ = some (.bool wb) := by rw [KX.out.cell]; rfl
    go_upto_region 17 with fail
    clear y16 y17 y18 y19
    have bh := (Below.refl w11.heap.size w11).alloc (Nat.le_refl _) (.cells #[.int .u32 (nm : Nat), .int .u8 (wi : Nat), .int .u8 (pa : Nat), .bool wb, .int .u64 0] 61)
    have KP := Lib.hid (Blk.new w11 61 #[.int .u32 (nm : Nat), .int .u8 (wi : Nat), .int .u8 (pa : Nat), .bool wb, .int .u64 0])
    replace RRk := Lib.hid (RRk.out.into bh)
    replace RRj := Lib.hid (RRj.out.into bh)
    replace RRd := Lib.hid (RRd.out.into bh)
    replace KB := Lib.hid (KB.out.below bh KB.out.lt)
    replace KS := Lib.hid (KS.out.below bh KS.out.lt)
    replace KX := Lib.hid (KX.out.below bh KX.out.lt)
    replace HS := Lib.hid (HS.out.into bh)
    replace HO := Lib.hid (HO.out.into bh)
    replace b1 := Lib.hid (b1.out.trans (bh.mono b1.out.size))
    clear bh
    obtain ⟨ob, hob⟩ : ∃ ob, ob = w11.heap.size := ⟨_, rfl⟩
    rw [← hob] at KP ⊢
    clear hob
    generalize w11.alloc (.cells #[.int .u32 (nm : Nat), .int .u8 (wi : Nat), .int .u8 (pa : Nat), .bool wb, .int .u64 0] 61) = w12 at *
    refine GH.wp_ghl (M := false) 9 ((GH.SP.eq (.agg #[.int .u64 (k0 : Nat), .int .u64 (k1 : Nat)])) :: (GH.SP.eq (.agg #[.int .u16 (g.src : Int), .int .u16 (g.dst : Int), .int .u32 (g.seq : Int), .int .u32 (g.ack : Int), .int .u8 (g.flags : Int), .slice A1 n1 c1, .slice D m d])) :: (GH.SP.eq (.pointer (some ⟨w.heap.size + 2, 15, none⟩))) :: (GH.SP.eq (.pointer (some ⟨w.heap.size + 2, 15, none⟩))) :: (GH.SP.eq (.int .u8 (kd : Nat))) :: (GH.SP.eq (.agg #[.int .u32 (nm : Nat), .int .u8 (wi : Nat), .int .u8 (pa : Nat), .bool wb, .int .u64 0])) :: (GH.SP.ns .u8 (wordP nm wi pa wb ++ be 0 8)) :: (GH.SP.ns .u8 (wordP nm wi pa wb ++ be (tagN k0 k1 g kd (wordP nm wi pa wb ++ be wt 8)) 8)) :: (GH.SP.ns .u8 (wordP nm wi pa wb ++ be (tagN k0 k1 g kd (wordP nm wi pa wb ++ be wt 8)) 8)) :: []) (none :: none :: none :: none :: none :: none :: none :: none :: none :: none :: none :: none :: none :: none :: none :: (some 8) :: none :: none :: none :: none :: none :: none :: none :: none :: none :: none :: none :: none :: none :: none :: none :: none :: none :: none :: none :: none :: none :: none :: none :: none :: none :: none :: none :: none :: none :: none :: none :: none :: none :: none :: none :: none :: none :: none :: none :: none :: none :: none :: none :: none :: none :: none :: none :: none :: none :: none :: none :: none :: none :: none :: none :: none :: none :: none :: none :: none :: none :: none :: none :: none :: none :: none :: none :: none :: none :: none :: none :: none :: none :: none :: none :: none :: none :: none :: none :: none :: none :: none :: none :: none :: none :: none :: none :: none :: none :: none :: none :: none :: none :: none :: none :: none :: none :: none :: none :: none :: none :: none :: none :: none :: none :: none :: none :: none :: none :: none :: none :: none :: none :: none :: none :: none :: none :: none :: none :: none :: none :: none :: none :: none :: none :: none :: none :: none :: none :: none :: none :: none :: none :: none :: none :: none :: none :: none :: none :: none :: none :: none :: none :: none :: (some 0) :: (some 1) :: (some 2) :: (some 3) :: (some 4) :: (some 5) :: (some 6) :: (some 7) :: none :: none :: none :: none :: none :: none :: none :: none :: none :: none :: none :: none :: none :: none :: none :: none :: none :: none :: none :: none :: none :: none :: none :: none :: none :: none :: none :: none :: none :: none :: none :: none :: none :: none :: none :: none :: none :: none :: none :: none :: []) [160, 161, 162, 163, 164, 165, 166, 167, 15] (by rfl) (by kernel_rfl) (by kernel_rfl) ?_ ?_ ?_
    · intro S jx v hjx
      match jx, hjx with
      | 0, _ => rfl
      | 1, _ => rfl
      | 2, _ => rfl
      | 3, _ => rfl
      | 4, _ => rfl
      | 5, _ => rfl
      | 6, _ => rfl
      | 7, _ => rfl
      | 8, _ => rfl
      | nx + 9, hjx => omega
    · intro jx hjx S w' hb hd
      match jx, hjx, hd with
      | 0, _, hd =>
        simp only [GH.mkL, List.getD_cons_succ, List.getD_cons_zero]
        clear hd
        exact GH.st_loads _ [.int .u64 (k0 : Nat), .int .u64 (k1 : Nat)] (by rfl) rfl rfl (((KB.out.below hb.below KB.out.lt)).loads 0 _ (by rfl)) (by kernel_rfl) (by kernel_rfl)
      | 1, _, hd =>
        simp only [GH.mkL, List.getD_cons_succ, List.getD_cons_zero]
        clear hd
        exact GH.st_loads _ [.int .u16 (g.src : Int), .int .u16 (g.dst : Int), .int .u32 (g.seq : Int), .int .u32 (g.ack : Int), .int .u8 (g.flags : Int), .slice A1 n1 c1, .slice D m d] (by rfl) rfl rfl (((KS.out.below hb.below KS.out.lt)).loads 0 _ (by rfl)) (by kernel_rfl) (by kernel_rfl)
      | 2, _, hd =>
        simp only [GH.mkL, List.getD_cons_succ, List.getD_cons_zero]
        clear hd
        refine GH.st_eq (by rfl) ?_
        go_simp
        (try with_reducible rfl)
      | 3, _, hd =>
        simp only [GH.mkL, List.getD_cons_succ, List.getD_cons_zero]
        have d2 : S 2 = .pointer (some ⟨w.heap.size + 2, 15, none⟩) := (hd 2 (by kernel_rfl)).2
        rw [d2]
        clear d2
        clear hd
        refine GH.st_eq (by rfl) ?_
        go_simp
        (try with_reducible rfl)
      | 4, _, hd =>
        simp only [GH.mkL, List.getD_cons_succ, List.getD_cons_zero]
        have d3 : S 3 = .pointer (some ⟨w.heap.size + 2, 15, none⟩) := (hd 3 (by kernel_rfl)).2
        rw [d3]
        clear d3
        clear hd
        exact GH.st_load _ (by rfl) rfl rfl (((KX.out.below hb.below KX.out.lt)).cell 15) (by kernel_rfl)
      | 5, _, hd =>
        simp only [GH.mkL, List.getD_cons_succ, List.getD_cons_zero]
        clear hd
        exact GH.st_loads _ [.int .u32 (nm : Nat), .int .u8 (wi : Nat), .int .u8 (pa : Nat), .bool wb, .int .u64 0] (by rfl) rfl rfl (((KP.out.below hb.below KP.out.lt)).loads 0 _ (by rfl)) (by kernel_rfl) (by kernel_rfl)
      | 6, _, hd =>
        simp only [GH.mkL, List.getD_cons_succ, List.getD_cons_zero]
        have d5 : S 5 = .agg #[.int .u32 (nm : Nat), .int .u8 (wi : Nat), .int .u8 (pa : Nat), .bool wb, .int .u64 0] := (hd 5 (by kernel_rfl)).2
        rw [d5]
        clear d5
        clear hd
        refine GH.st_call (by rfl) hb.below.size (by go_simp) ((HRW.out w').mono ?_)
        rintro e w9 ⟨⟨v, rfl, hN⟩, hb9⟩
        exact ⟨_, rfl, hb9, (by rw [wordP_eq] at hN; exact GH.ns_of_own hN)⟩
      | 7, _, hd =>
        simp only [GH.mkL, List.getD_cons_succ, List.getD_cons_zero]
        have d0 : S 0 = .agg #[.int .u64 (k0 : Nat), .int .u64 (k1 : Nat)] := (hd 0 (by kernel_rfl)).2
        rw [d0]
        clear d0
        have d1 : S 1 = .agg #[.int .u16 (g.src : Int), .int .u16 (g.dst : Int), .int .u32 (g.seq : Int), .int .u32 (g.ack : Int), .int .u8 (g.flags : Int), .slice A1 n1 c1, .slice D m d] := (hd 1 (by kernel_rfl)).2
        rw [d1]
        clear d1
        have d4 : S 4 = .int .u8 (kd : Nat) := (hd 4 (by kernel_rfl)).2
        rw [d4]
        clear d4
        obtain ⟨A6, n6, c6, d6, e6, l6, H6⟩ := (hd 6 (by kernel_rfl)).2
        rw [d6]
        clear d6
        replace H6 := Lib.hid H6
        replace l6 := Lib.hid l6
        clear hd
        refine GH.st_call (by rfl) hb.below.size (by go_simp) ((rsealed_row k0 k1 _ g (wordP nm wi pa wb) 0 wt kd n6 c6 A6 w' h0 h1 (HS.out.gr hb) HG.out HM.out.data H6.out e6 (by simp [keyP, joinP, dataP, wordP, be_len]) HPK.out.2.2.2 HX.out.2.2.1).mono ?_)
        rintro e w9 ⟨⟨v, rfl, hN⟩, hb9⟩
        exact ⟨_, rfl, hb9, GH.ns_of_own hN⟩
      | 8, _, hd =>
        simp only [GH.mkL, List.getD_cons_succ, List.getD_cons_zero]
        have d0 : S 0 = .agg #[.int .u64 (k0 : Nat), .int .u64 (k1 : Nat)] := (hd 0 (by kernel_rfl)).2
        rw [d0]
        clear d0
        have d1 : S 1 = .agg #[.int .u16 (g.src : Int), .int .u16 (g.dst : Int), .int .u32 (g.seq : Int), .int .u32 (g.ack : Int), .int .u8 (g.flags : Int), .slice A1 n1 c1, .slice D m d] := (hd 1 (by kernel_rfl)).2
        rw [d1]
        clear d1
        have d2 : S 2 = .pointer (some ⟨w.heap.size + 2, 15, none⟩) := (hd 2 (by kernel_rfl)).2
        rw [d2]
        clear d2
        have d3 : S 3 = .pointer (some ⟨w.heap.size + 2, 15, none⟩) := (hd 3 (by kernel_rfl)).2
        rw [d3]
        clear d3
        have d4 : S 4 = .int .u8 (kd : Nat) := (hd 4 (by kernel_rfl)).2
        rw [d4]
        clear d4
        have d5 : S 5 = .agg #[.int .u32 (nm : Nat), .int .u8 (wi : Nat), .int .u8 (pa : Nat), .bool wb, .int .u64 0] := (hd 5 (by kernel_rfl)).2
        rw [d5]
        clear d5
        obtain ⟨A6, n6, c6, d6, e6, l6, H6⟩ := (hd 6 (by kernel_rfl)).2
        rw [d6]
        clear d6
        replace H6 := Lib.hid H6
        replace l6 := Lib.hid l6
        obtain ⟨A7, n7, c7, d7, e7, l7, H7⟩ := (hd 7 (by kernel_rfl)).2
        rw [d7]
        clear d7
        replace H7 := Lib.hid H7
        replace l7 := Lib.hid l7
        clear hd
        exact GH.st_val (by rfl) (by go_simp) ⟨_, _, _, rfl, e7, l7.out, H7.out⟩
      | nx + 9, hjx, _ => omega
    intro S w' hb hG
    simp only [GH.mkL, List.drop_succ_cons, List.drop_zero]
    obtain ⟨A8, n8, c8, d8, e8, l8, H8⟩ := hG 8 (by omega)
    rw [d8]
    clear d8
    replace H8 := Lib.hid H8
    replace l8 := Lib.hid l8
    clear hG
    clear KP
    have bh : Below w12.heap.size w12 w' := hb.below
    replace KB := Lib.hid (KB.out.below bh KB.out.lt)
    replace KS := Lib.hid (KS.out.below bh KS.out.lt)
    replace KX := Lib.hid (KX.out.below bh KX.out.lt)
    replace HS := Lib.hid (HS.out.into bh)
    replace HO := Lib.hid (HO.out.into bh)
    replace b1 := Lib.hid (b1.out.trans (bh.mono b1.out.size))
    clear bh
    replace RRk := Lib.hid (RRk.out.gr hb)
    replace RRj := Lib.hid (RRj.out.gr hb)
    replace RRd := Lib.hid (RRd.out.gr hb)
    clear hb
    have RRw : Hid (Rd w' w'.heap.size 1 A8 n8 (ns .u8 (wordP nm wi pa wb ++ be (tagN k0 k1 g kd (wordP nm wi pa wb ++ be wt 8)) 8))) := H8
    clear H8 e8 l8
    generalize A8 = Aw at *
    generalize n8 = nw at *
    generalize c8 = cw at *
    generalize w' = w13 at *
    refine wpList_nil ?_
    go_upto_region 18 with fail
    refine GH.wp_ghl (M := false) 41 ((GH.SP.eq (.agg #[.int .u64 (k0 : Nat), .int .u64 (k1 : Nat)])) :: (GH.SP.eq (.agg #[.int .u16 (g.src : Int), .int .u16 (g.dst : Int), .int .u32 (g.seq : Int), .int .u32 (g.ack : Int), .int .u8 (g.flags : Int), .slice A1 n1 c1, .slice D m d])) :: (GH.SP.eq (.pointer (some ⟨w.heap.size + 2, 0, none⟩))) :: (GH.SP.eq (.agg #[.int .u64 (kk : Nat), .bool ka, .int .u64 (kt : Nat)])) :: (GH.SP.opt 1 (keyP kk ++ be (tagN k0 k1 g 1 (keyP kk ++ be kt 8)) 8)) :: (GH.SP.eq (.slice Ak nk ck)) :: (GH.SP.eq (.bool true)) :: (GH.SP.eq (.bool true)) :: (GH.SP.eq (.agg #[.int .u64 (k0 : Nat), .int .u64 (k1 : Nat)])) :: (GH.SP.eq (.agg #[.int .u16 (g.src : Int), .int .u16 (g.dst : Int), .int .u32 (g.seq : Int), .int .u32 (g.ack : Int), .int .u8 (g.flags : Int), .slice A1 n1 c1, .slice D m d])) :: (GH.SP.eq (.pointer (some ⟨w.heap.size + 2, 3, none⟩))) :: (GH.SP.eq (.agg #[.int .u32 (tk : Nat), .int .u32 (nc : Nat), .int .u8 (id : Nat), .bool bk, .bool ja, .int .u64 (jt : Nat)])) :: (GH.SP.opt 2 (joinP tk nc id bk ++ be (tagN k0 k1 g 2 (joinP tk nc id bk ++ be jt 8)) 8)) :: (GH.SP.eq (.slice Aj nj cj)) :: (GH.SP.eq (.bool true)) :: (GH.SP.eq (.bool true)) :: (GH.SP.eq (.bool true)) :: (GH.SP.eq (.agg #[.int .u64 (k0 : Nat), .int .u64 (k1 : Nat)])) :: (GH.SP.eq (.agg #[.int .u16 (g.src : Int), .int .u16 (g.dst : Int), .int .u32 (g.seq : Int), .int .u32 (g.ack : Int), .int .u8 (g.flags : Int), .slice A1 n1 c1, .slice D m d])) :: (GH.SP.eq (.pointer (some ⟨w.heap.size + 2, 9, none⟩))) :: (GH.SP.eq (.agg #[.bool f, .bool p, .int .u64 (sq : Nat), .int .u64 (ak : Nat), .int .u32 (wn : Nat), .int .u64 (dt : Nat)])) :: (GH.SP.opt 3 (dataP f p sq ak wn ++ be (tagN k0 k1 g 3 (dataP f p sq ak wn ++ be dt 8)) 8)) :: (GH.SP.eq (.slice Ad nd cd)) :: (GH.SP.eq (.bool true)) :: (GH.SP.eq (.bool true)) :: (GH.SP.eq (.bool true)) :: (GH.SP.eq (.agg #[.int .u64 (k0 : Nat), .int .u64 (k1 : Nat)])) :: (GH.SP.eq (.agg #[.int .u16 (g.src : Int), .int .u16 (g.dst : Int), .int .u32 (g.seq : Int), .int .u32 (g.ack : Int), .int .u8 (g.flags : Int), .slice A1 n1 c1, .slice D m d])) :: (GH.SP.eq (.pointer (some ⟨w.heap.size + 2, 15, none⟩))) :: (GH.SP.eq (.agg #[.int .u8 (kd : Nat), .int .u32 (nm : Nat), .int .u8 (wi : Nat), .int .u8 (pa : Nat), .bool wb, .int .u64 (wt : Nat)])) :: (GH.SP.opt kd (wordP nm wi pa wb ++ be (tagN k0 k1 g kd (wordP nm wi pa wb ++ be wt 8)) 8)) :: (GH.SP.eq (.pointer (some ⟨w.heap.size + 2, 15, none⟩))) :: (GH.SP.eq (.pointer (some ⟨w.heap.size + 2, 15, none⟩))) :: (GH.SP.eq (.int .u8 (kd : Nat))) :: (GH.SP.eq (.slice Aw nw cw)) :: (GH.SP.eq (.bool true)) :: (GH.SP.eq (.bool true)) :: (GH.SP.eq (.bool true)) :: (GH.SP.eq (.bool true)) :: (GH.SP.eq (.bool true)) :: (GH.SP.eq (.bool true)) :: []) (none :: none :: none :: none :: none :: none :: (some 40) :: none :: none :: none :: none :: none :: none :: none :: none :: none :: none :: none :: none :: none :: none :: none :: none :: none :: none :: none :: none :: none :: none :: none :: none :: none :: none :: none :: none :: none :: none :: none :: none :: none :: none :: none :: none :: none :: none :: none :: none :: none :: none :: none :: none :: none :: none :: none :: none :: none :: none :: none :: none :: none :: none :: none :: none :: none :: none :: none :: none :: none :: none :: none :: none :: none :: none :: none :: none :: none :: none :: none :: none :: none :: none :: none :: none :: none :: none :: none :: none :: none :: none :: none :: none :: none :: none :: none :: none :: none :: none :: none :: none :: none :: none :: none :: none :: none :: none :: none :: none :: none :: none :: none :: none :: none :: none :: none :: none :: none :: none :: none :: none :: none :: none :: none :: none :: none :: none :: none :: none :: none :: none :: none :: none :: none :: none :: none :: none :: none :: none :: none :: none :: none :: none :: none :: none :: none :: none :: none :: none :: none :: none :: none :: none :: none :: none :: none :: none :: none :: none :: none :: none :: none :: none :: none :: none :: none :: none :: none :: none :: none :: (some 0) :: (some 1) :: (some 2) :: (some 3) :: (some 4) :: (some 5) :: (some 6) :: (some 7) :: (some 8) :: (some 9) :: (some 10) :: (some 11) :: (some 12) :: (some 13) :: (some 14) :: (some 15) :: (some 16) :: (some 17) :: (some 18) :: (some 19) :: (some 20) :: (some 21) :: (some 22) :: (some 23) :: (some 24) :: (some 25) :: (some 26) :: (some 27) :: (some 28) :: (some 29) :: (some 30) :: (some 31) :: (some 32) :: (some 33) :: (some 34) :: (some 35) :: (some 36) :: (some 37) :: (some 38) :: (some 39) :: []) [168, 169, 170, 171, 172, 173, 174, 175, 176, 177, 178, 179, 180, 181, 182, 183, 184, 185, 186, 187, 188, 189, 190, 191, 192, 193, 194, 195, 196, 197, 198, 199, 200, 201, 202, 203, 204, 205, 206, 207, 6] (by rfl) (by kernel_rfl) (by kernel_rfl) ?_ ?_ ?_
    · intro S jx v hjx
      match jx, hjx with
      | 0, _ => rfl
      | 1, _ => rfl
      | 2, _ => rfl
      | 3, _ => rfl
      | 4, _ => rfl
      | 5, _ => rfl
      | 6, _ => rfl
      | 7, _ => rfl
      | 8, _ => rfl
      | 9, _ => rfl
      | 10, _ => rfl
      | 11, _ => rfl
      | 12, _ => rfl
      | 13, _ => rfl
      | 14, _ => rfl
      | 15, _ => rfl
      | 16, _ => rfl
      | 17, _ => rfl
      | 18, _ => rfl
      | 19, _ => rfl
      | 20, _ => rfl
      | 21, _ => rfl
      | 22, _ => rfl
      | 23, _ => rfl
      | 24, _ => rfl
      | 25, _ => rfl
      | 26, _ => rfl
      | 27, _ => rfl
      | 28, _ => rfl
      | 29, _ => rfl
      | 30, _ => rfl
      | 31, _ => rfl
      | 32, _ => rfl
      | 33, _ => rfl
      | 34, _ => rfl
      | 35, _ => rfl
      | 36, _ => rfl
      | 37, _ => rfl
      | 38, _ => rfl
      | 39, _ => rfl
      | 40, _ => rfl
      | nx + 41, hjx => omega
    · intro jx hjx S w' hb hd
      match jx, hjx, hd with
      | 0, _, hd =>
        simp only [GH.mkL, List.getD_cons_succ, List.getD_cons_zero]
        clear hd
        exact GH.st_loads _ [.int .u64 (k0 : Nat), .int .u64 (k1 : Nat)] (by rfl) rfl rfl (((KB.out.below hb.below KB.out.lt)).loads 0 _ (by rfl)) (by kernel_rfl) (by kernel_rfl)
      | 1, _, hd =>
        simp only [GH.mkL, List.getD_cons_succ, List.getD_cons_zero]
        clear hd
        exact GH.st_loads _ [.int .u16 (g.src : Int), .int .u16 (g.dst : Int), .int .u32 (g.seq : Int), .int .u32 (g.ack : Int), .int .u8 (g.flags : Int), .slice A1 n1 c1, .slice D m d] (by rfl) rfl rfl (((KS.out.below hb.below KS.out.lt)).loads 0 _ (by rfl)) (by kernel_rfl) (by kernel_rfl)
      | 2, _, hd =>
        simp only [GH.mkL, List.getD_cons_succ, List.getD_cons_zero]
        clear hd
        refine GH.st_eq (by rfl) ?_
        go_simp
        (try with_reducible rfl)
      | 3, _, hd =>
        simp only [GH.mkL, List.getD_cons_succ, List.getD_cons_zero]
        have d2 : S 2 = .pointer (some ⟨w.heap.size + 2, 0, none⟩) := (hd 2 (by kernel_rfl)).2
        rw [d2]
        clear d2
        clear hd
        exact GH.st_loads _ [.int .u64 (kk : Nat), .bool ka, .int .u64 (kt : Nat)] (by rfl) rfl rfl (((KX.out.below hb.below KX.out.lt)).loads 0 _ (by rfl)) (by kernel_rfl) (by kernel_rfl)
      | 4, _, hd =>
        simp only [GH.mkL, List.getD_cons_succ, List.getD_cons_zero]
        have d0 : S 0 = .agg #[.int .u64 (k0 : Nat), .int .u64 (k1 : Nat)] := (hd 0 (by kernel_rfl)).2
        rw [d0]
        clear d0
        have d1 : S 1 = .agg #[.int .u16 (g.src : Int), .int .u16 (g.dst : Int), .int .u32 (g.seq : Int), .int .u32 (g.ack : Int), .int .u8 (g.flags : Int), .slice A1 n1 c1, .slice D m d] := (hd 1 (by kernel_rfl)).2
        rw [d1]
        clear d1
        have d3 : S 3 = .agg #[.int .u64 (kk : Nat), .bool ka, .int .u64 (kt : Nat)] := (hd 3 (by kernel_rfl)).2
        rw [d3]
        clear d3
        clear hd
        refine GH.st_call (by rfl) hb.below.size (by go_simp) ((mKey_any k0 k1 _ g kk ka kt w' h0 h1 (HS.out.gr hb) HG.out HM.out.data HX.out.1.1 HX.out.1.2.1).mono ?_)
        rintro e w9 ⟨⟨v, rfl, hN⟩, hb9⟩
        exact ⟨_, rfl, hb9, (by rw [keyP_eq, keyP_eq] at hN; exact GH.opt_of hN)⟩
      | 5, _, hd =>
        simp only [GH.mkL, List.getD_cons_succ, List.getD_cons_zero]
        clear hd
        refine GH.st_eq (by rfl) ?_
        go_simp
        (try with_reducible rfl)
      | 6, _, hd =>
        simp only [GH.mkL, List.getD_cons_succ, List.getD_cons_zero]
        obtain ⟨A4, n4, c4, d4, e4, m4, H4⟩ := (hd 4 (by kernel_rfl)).2
        rw [d4]
        clear d4
        replace H4 := Lib.hid H4
        have d5 : S 5 = .slice Ak nk ck := (hd 5 (by kernel_rfl)).2
        rw [d5]
        clear d5
        clear hd
        refine GH.st_call (by rfl) hb.below.size (by go_simp) ((is_same 1 n4 c4 nk ck A4 Ak _ w' H4.out (RRk.out.gr hb)).mono ?_)
        rintro e w9 ⟨rfl, hb9⟩
        exact ⟨_, rfl, hb9, rfl⟩
      | 7, _, hd =>
        simp only [GH.mkL, List.getD_cons_succ, List.getD_cons_zero]
        have d6 : S 6 = .bool true := (hd 6 (by kernel_rfl)).2
        rw [d6]
        clear d6
        clear hd
        refine GH.st_eq (by rfl) ?_
        go_simp
        (try with_reducible rfl)
      | 8, _, hd =>
        simp only [GH.mkL, List.getD_cons_succ, List.getD_cons_zero]
        have d7 : S 7 = .bool true := (hd 7 (by kernel_rfl)).2
        rw [d7]
        clear d7
        clear hd
        exact GH.st_loads _ [.int .u64 (k0 : Nat), .int .u64 (k1 : Nat)] (by rfl) rfl rfl (((KB.out.below hb.below KB.out.lt)).loads 0 _ (by rfl)) (by kernel_rfl) (by kernel_rfl)
      | 9, _, hd =>
        simp only [GH.mkL, List.getD_cons_succ, List.getD_cons_zero]
        have d7 : S 7 = .bool true := (hd 7 (by kernel_rfl)).2
        rw [d7]
        clear d7
        clear hd
        exact GH.st_loads _ [.int .u16 (g.src : Int), .int .u16 (g.dst : Int), .int .u32 (g.seq : Int), .int .u32 (g.ack : Int), .int .u8 (g.flags : Int), .slice A1 n1 c1, .slice D m d] (by rfl) rfl rfl (((KS.out.below hb.below KS.out.lt)).loads 0 _ (by rfl)) (by kernel_rfl) (by kernel_rfl)
      | 10, _, hd =>
        simp only [GH.mkL, List.getD_cons_succ, List.getD_cons_zero]
        have d7 : S 7 = .bool true := (hd 7 (by kernel_rfl)).2
        rw [d7]
        clear d7
        clear hd
        refine GH.st_eq (by rfl) ?_
        go_simp
        (try with_reducible rfl)
      | 11, _, hd =>
        simp only [GH.mkL, List.getD_cons_succ, List.getD_cons_zero]
        have d7 : S 7 = .bool true := (hd 7 (by kernel_rfl)).2
        rw [d7]
        clear d7
        have d10 : S 10 = .pointer (some ⟨w.heap.size + 2, 3, none⟩) := (hd 10 (by kernel_rfl)).2
        rw [d10]
        clear d10
        clear hd
        exact GH.st_loads _ [.int .u32 (tk : Nat), .int .u32 (nc : Nat), .int .u8 (id : Nat), .bool bk, .bool ja, .int .u64 (jt : Nat)] (by rfl) rfl rfl (((KX.out.below hb.below KX.out.lt)).loads 3 _ (by rfl)) (by kernel_rfl) (by kernel_rfl)
      | 12, _, hd =>
        simp only [GH.mkL, List.getD_cons_succ, List.getD_cons_zero]
        have d7 : S 7 = .bool true := (hd 7 (by kernel_rfl)).2
        rw [d7]
        clear d7
        have d8 : S 8 = .agg #[.int .u64 (k0 : Nat), .int .u64 (k1 : Nat)] := (hd 8 (by kernel_rfl)).2
        rw [d8]
        clear d8
        have d9 : S 9 = .agg #[.int .u16 (g.src : Int), .int .u16 (g.dst : Int), .int .u32 (g.seq : Int), .int .u32 (g.ack : Int), .int .u8 (g.flags : Int), .slice A1 n1 c1, .slice D m d] := (hd 9 (by kernel_rfl)).2
        rw [d9]
        clear d9
        have d11 : S 11 = .agg #[.int .u32 (tk : Nat), .int .u32 (nc : Nat), .int .u8 (id : Nat), .bool bk, .bool ja, .int .u64 (jt : Nat)] := (hd 11 (by kernel_rfl)).2
        rw [d11]
        clear d11
        clear hd
        refine GH.st_call (by rfl) hb.below.size (by go_simp) ((mJoin_any k0 k1 _ g tk nc id bk ja jt w' h0 h1 (HS.out.gr hb) HG.out HM.out.data HX.out.1.2.2.1 HX.out.1.2.2.2.1 HX.out.1.2.2.2.2.1 HX.out.1.2.2.2.2.2).mono ?_)
        rintro e w9 ⟨⟨v, rfl, hN⟩, hb9⟩
        exact ⟨_, rfl, hb9, (by rw [joinP_eq, joinP_eq] at hN; exact GH.opt_of hN)⟩
      | 13, _, hd =>
        simp only [GH.mkL, List.getD_cons_succ, List.getD_cons_zero]
        have d7 : S 7 = .bool true := (hd 7 (by kernel_rfl)).2
        rw [d7]
        clear d7
        clear hd
        refine GH.st_eq (by rfl) ?_
        go_simp
        (try with_reducible rfl)
      | 14, _, hd =>
        simp only [GH.mkL, List.getD_cons_succ, List.getD_cons_zero]
        have d7 : S 7 = .bool true := (hd 7 (by kernel_rfl)).2
        rw [d7]
        clear d7
        obtain ⟨A12, n12, c12, d12, e12, m12, H12⟩ := (hd 12 (by kernel_rfl)).2
        rw [d12]
        clear d12
        replace H12 := Lib.hid H12
        have d13 : S 13 = .slice Aj nj cj := (hd 13 (by kernel_rfl)).2
        rw [d13]
        clear d13
        clear hd
        refine GH.st_call (by rfl) hb.below.size (by go_simp) ((is_same 2 n12 c12 nj cj A12 Aj _ w' H12.out (RRj.out.gr hb)).mono ?_)
        rintro e w9 ⟨rfl, hb9⟩
        exact ⟨_, rfl, hb9, rfl⟩
      | 15, _, hd =>
        simp only [GH.mkL, List.getD_cons_succ, List.getD_cons_zero]
        have d7 : S 7 = .bool true := (hd 7 (by kernel_rfl)).2
        rw [d7]
        clear d7
        have d14 : S 14 = .bool true := (hd 14 (by kernel_rfl)).2
        rw [d14]
        clear d14
        clear hd
        refine GH.st_eq (by rfl) ?_
        go_simp
        (try with_reducible rfl)
      | 16, _, hd =>
        simp only [GH.mkL, List.getD_cons_succ, List.getD_cons_zero]
        have d14 : S 14 = .bool true := (hd 14 (by kernel_rfl)).2
        rw [d14]
        clear d14
        have d15 : S 15 = .bool true := (hd 15 (by kernel_rfl)).2
        rw [d15]
        clear d15
        clear hd
        refine GH.st_eq (by rfl) ?_
        go_simp
        (try with_reducible rfl)
      | 17, _, hd =>
        simp only [GH.mkL, List.getD_cons_succ, List.getD_cons_zero]
        have d16 : S 16 = .bool true := (hd 16 (by kernel_rfl)).2
        rw [d16]
        clear d16
        clear hd
        exact GH.st_loads _ [.int .u64 (k0 : Nat), .int .u64 (k1 : Nat)] (by rfl) rfl rfl (((KB.out.below hb.below KB.out.lt)).loads 0 _ (by rfl)) (by kernel_rfl) (by kernel_rfl)
      | 18, _, hd =>
        simp only [GH.mkL, List.getD_cons_succ, List.getD_cons_zero]
        have d16 : S 16 = .bool true := (hd 16 (by kernel_rfl)).2
        rw [d16]
        clear d16
        clear hd
        exact GH.st_loads _ [.int .u16 (g.src : Int), .int .u16 (g.dst : Int), .int .u32 (g.seq : Int), .int .u32 (g.ack : Int), .int .u8 (g.flags : Int), .slice A1 n1 c1, .slice D m d] (by rfl) rfl rfl (((KS.out.below hb.below KS.out.lt)).loads 0 _ (by rfl)) (by kernel_rfl) (by kernel_rfl)
      | 19, _, hd =>
        simp only [GH.mkL, List.getD_cons_succ, List.getD_cons_zero]
        have d16 : S 16 = .bool true := (hd 16 (by kernel_rfl)).2
        rw [d16]
        clear d16
        clear hd
        refine GH.st_eq (by rfl) ?_
        go_simp
        (try with_reducible rfl)
      | 20, _, hd =>
        simp only [GH.mkL, List.getD_cons_succ, List.getD_cons_zero]
        have d16 : S 16 = .bool true := (hd 16 (by kernel_rfl)).2
        rw [d16]
        clear d16
        have d19 : S 19 = .pointer (some ⟨w.heap.size + 2, 9, none⟩) := (hd 19 (by kernel_rfl)).2
        rw [d19]
        clear d19
        clear hd
        exact GH.st_loads _ [.bool f, .bool p, .int .u64 (sq : Nat), .int .u64 (ak : Nat), .int .u32 (wn : Nat), .int .u64 (dt : Nat)] (by rfl) rfl rfl (((KX.out.below hb.below KX.out.lt)).loads 9 _ (by rfl)) (by kernel_rfl) (by kernel_rfl)
      | 21, _, hd =>
        simp only [GH.mkL, List.getD_cons_succ, List.getD_cons_zero]
        have d16 : S 16 = .bool true := (hd 16 (by kernel_rfl)).2
        rw [d16]
        clear d16
        have d17 : S 17 = .agg #[.int .u64 (k0 : Nat), .int .u64 (k1 : Nat)] := (hd 17 (by kernel_rfl)).2
        rw [d17]
        clear d17
        have d18 : S 18 = .agg #[.int .u16 (g.src : Int), .int .u16 (g.dst : Int), .int .u32 (g.seq : Int), .int .u32 (g.ack : Int), .int .u8 (g.flags : Int), .slice A1 n1 c1, .slice D m d] := (hd 18 (by kernel_rfl)).2
        rw [d18]
        clear d18
        have d20 : S 20 = .agg #[.bool f, .bool p, .int .u64 (sq : Nat), .int .u64 (ak : Nat), .int .u32 (wn : Nat), .int .u64 (dt : Nat)] := (hd 20 (by kernel_rfl)).2
        rw [d20]
        clear d20
        clear hd
        refine GH.st_call (by rfl) hb.below.size (by go_simp) ((mData_any k0 k1 _ g f p sq ak wn dt w' h0 h1 (HS.out.gr hb) HG.out HM.out.data HX.out.2.1.1 HX.out.2.1.2.1 HX.out.2.1.2.2.1 HX.out.2.1.2.2.2).mono ?_)
        rintro e w9 ⟨⟨v, rfl, hN⟩, hb9⟩
        exact ⟨_, rfl, hb9, (by rw [dataP_eq, dataP_eq] at hN; exact GH.opt_of hN)⟩
      | 22, _, hd =>
        simp only [GH.mkL, List.getD_cons_succ, List.getD_cons_zero]
        have d16 : S 16 = .bool true := (hd 16 (by kernel_rfl)).2
        rw [d16]
        clear d16
        clear hd
        refine GH.st_eq (by rfl) ?_
        go_simp
        (try with_reducible rfl)
      | 23, _, hd =>
        simp only [GH.mkL, List.getD_cons_succ, List.getD_cons_zero]
        have d16 : S 16 = .bool true := (hd 16 (by kernel_rfl)).2
        rw [d16]
        clear d16
        obtain ⟨A21, n21, c21, d21, e21, m21, H21⟩ := (hd 21 (by kernel_rfl)).2
        rw [d21]
        clear d21
        replace H21 := Lib.hid H21
        have d22 : S 22 = .slice Ad nd cd := (hd 22 (by kernel_rfl)).2
        rw [d22]
        clear d22
        clear hd
        refine GH.st_call (by rfl) hb.below.size (by go_simp) ((is_same 3 n21 c21 nd cd A21 Ad _ w' H21.out (RRd.out.gr hb)).mono ?_)
        rintro e w9 ⟨rfl, hb9⟩
        exact ⟨_, rfl, hb9, rfl⟩
      | 24, _, hd =>
        simp only [GH.mkL, List.getD_cons_succ, List.getD_cons_zero]
        have d16 : S 16 = .bool true := (hd 16 (by kernel_rfl)).2
        rw [d16]
        clear d16
        have d23 : S 23 = .bool true := (hd 23 (by kernel_rfl)).2
        rw [d23]
        clear d23
        clear hd
        refine GH.st_eq (by rfl) ?_
        go_simp
        (try with_reducible rfl)
      | 25, _, hd =>
        simp only [GH.mkL, List.getD_cons_succ, List.getD_cons_zero]
        have d23 : S 23 = .bool true := (hd 23 (by kernel_rfl)).2
        rw [d23]
        clear d23
        have d24 : S 24 = .bool true := (hd 24 (by kernel_rfl)).2
        rw [d24]
        clear d24
        clear hd
        refine GH.st_eq (by rfl) ?_
        go_simp
        (try with_reducible rfl)
      | 26, _, hd =>
        simp only [GH.mkL, List.getD_cons_succ, List.getD_cons_zero]
        have d25 : S 25 = .bool true := (hd 25 (by kernel_rfl)).2
        rw [d25]
        clear d25
        clear hd
        exact GH.st_loads _ [.int .u64 (k0 : Nat), .int .u64 (k1 : Nat)] (by rfl) rfl rfl (((KB.out.below hb.below KB.out.lt)).loads 0 _ (by rfl)) (by kernel_rfl) (by kernel_rfl)
      | 27, _, hd =>
        simp only [GH.mkL, List.getD_cons_succ, List.getD_cons_zero]
        have d25 : S 25 = .bool true := (hd 25 (by kernel_rfl)).2
        rw [d25]
        clear d25
        clear hd
        exact GH.st_loads _ [.int .u16 (g.src : Int), .int .u16 (g.dst : Int), .int .u32 (g.seq : Int), .int .u32 (g.ack : Int), .int .u8 (g.flags : Int), .slice A1 n1 c1, .slice D m d] (by rfl) rfl rfl (((KS.out.below hb.below KS.out.lt)).loads 0 _ (by rfl)) (by kernel_rfl) (by kernel_rfl)
      | 28, _, hd =>
        simp only [GH.mkL, List.getD_cons_succ, List.getD_cons_zero]
        have d25 : S 25 = .bool true := (hd 25 (by kernel_rfl)).2
        rw [d25]
        clear d25
        clear hd
        refine GH.st_eq (by rfl) ?_
        go_simp
        (try with_reducible rfl)
      | 29, _, hd =>
        simp only [GH.mkL, List.getD_cons_succ, List.getD_cons_zero]
        have d25 : S 25 = .bool true := (hd 25 (by kernel_rfl)).2
        rw [d25]
        clear d25
        have d28 : S 28 = .pointer (some ⟨w.heap.size + 2, 15, none⟩) := (hd 28 (by kernel_rfl)).2
        rw [d28]
        clear d28
        clear hd
        exact GH.st_loads _ [.int .u8 (kd : Nat), .int .u32 (nm : Nat), .int .u8 (wi : Nat), .int .u8 (pa : Nat), .bool wb, .int .u64 (wt : Nat)] (by rfl) rfl rfl (((KX.out.below hb.below KX.out.lt)).loads 15 _ (by rfl)) (by kernel_rfl) (by kernel_rfl)
      | 30, _, hd =>
        simp only [GH.mkL, List.getD_cons_succ, List.getD_cons_zero]
        have d25 : S 25 = .bool true := (hd 25 (by kernel_rfl)).2
        rw [d25]
        clear d25
        have d26 : S 26 = .agg #[.int .u64 (k0 : Nat), .int .u64 (k1 : Nat)] := (hd 26 (by kernel_rfl)).2
        rw [d26]
        clear d26
        have d27 : S 27 = .agg #[.int .u16 (g.src : Int), .int .u16 (g.dst : Int), .int .u32 (g.seq : Int), .int .u32 (g.ack : Int), .int .u8 (g.flags : Int), .slice A1 n1 c1, .slice D m d] := (hd 27 (by kernel_rfl)).2
        rw [d27]
        clear d27
        have d29 : S 29 = .agg #[.int .u8 (kd : Nat), .int .u32 (nm : Nat), .int .u8 (wi : Nat), .int .u8 (pa : Nat), .bool wb, .int .u64 (wt : Nat)] := (hd 29 (by kernel_rfl)).2
        rw [d29]
        clear d29
        clear hd
        refine GH.st_call (by rfl) hb.below.size (by go_simp) ((mWord_any k0 k1 _ g kd nm wi pa wb wt w' h0 h1 (HS.out.gr hb) HG.out HM.out.data HX.out.2.2.1 HX.out.2.2.2.1 HX.out.2.2.2.2.1 HX.out.2.2.2.2.2.1 HX.out.2.2.2.2.2.2).mono ?_)
        rintro e w9 ⟨⟨v, rfl, hN⟩, hb9⟩
        exact ⟨_, rfl, hb9, (by rw [wordP_eq, wordP_eq] at hN; exact GH.opt_of hN)⟩
      | 31, _, hd =>
        simp only [GH.mkL, List.getD_cons_succ, List.getD_cons_zero]
        have d25 : S 25 = .bool true := (hd 25 (by kernel_rfl)).2
        rw [d25]
        clear d25
        clear hd
        refine GH.st_eq (by rfl) ?_
        go_simp
        (try with_reducible rfl)
      | 32, _, hd =>
        simp only [GH.mkL, List.getD_cons_succ, List.getD_cons_zero]
        have d25 : S 25 = .bool true := (hd 25 (by kernel_rfl)).2
        rw [d25]
        clear d25
        have d31 : S 31 = .pointer (some ⟨w.heap.size + 2, 15, none⟩) := (hd 31 (by kernel_rfl)).2
        rw [d31]
        clear d31
        clear hd
        refine GH.st_eq (by rfl) ?_
        go_simp
        (try with_reducible rfl)
      | 33, _, hd =>
        simp only [GH.mkL, List.getD_cons_succ, List.getD_cons_zero]
        have d25 : S 25 = .bool true := (hd 25 (by kernel_rfl)).2
        rw [d25]
        clear d25
        have d32 : S 32 = .pointer (some ⟨w.heap.size + 2, 15, none⟩) := (hd 32 (by kernel_rfl)).2
        rw [d32]
        clear d32
        clear hd
        exact GH.st_load _ (by rfl) rfl rfl (((KX.out.below hb.below KX.out.lt)).cell 15) (by kernel_rfl)
      | 34, _, hd =>
        simp only [GH.mkL, List.getD_cons_succ, List.getD_cons_zero]
        have d25 : S 25 = .bool true := (hd 25 (by kernel_rfl)).2
        rw [d25]
        clear d25
        clear hd
        refine GH.st_eq (by rfl) ?_
        go_simp
        (try with_reducible rfl)
      | 35, _, hd =>
        simp only [GH.mkL, List.getD_cons_succ, List.getD_cons_zero]
        have d25 : S 25 = .bool true := (hd 25 (by kernel_rfl)).2
        rw [d25]
        clear d25
        obtain ⟨A30, n30, c30, d30, e30, m30, H30⟩ := (hd 30 (by kernel_rfl)).2
        rw [d30]
        clear d30
        replace H30 := Lib.hid H30
        have d33 : S 33 = .int .u8 (kd : Nat) := (hd 33 (by kernel_rfl)).2
        rw [d33]
        clear d33
        have d34 : S 34 = .slice Aw nw cw := (hd 34 (by kernel_rfl)).2
        rw [d34]
        clear d34
        clear hd
        refine GH.st_call (by rfl) hb.below.size (by go_simp) ((is_same kd n30 c30 nw cw A30 Aw _ w' H30.out (RRw.out.gr hb)).mono ?_)
        rintro e w9 ⟨rfl, hb9⟩
        exact ⟨_, rfl, hb9, rfl⟩
      | 36, _, hd =>
        simp only [GH.mkL, List.getD_cons_succ, List.getD_cons_zero]
        have d25 : S 25 = .bool true := (hd 25 (by kernel_rfl)).2
        rw [d25]
        clear d25
        have d35 : S 35 = .bool true := (hd 35 (by kernel_rfl)).2
        rw [d35]
        clear d35
        clear hd
        refine GH.st_eq (by rfl) ?_
        go_simp
        (try with_reducible rfl)
      | 37, _, hd =>
        simp only [GH.mkL, List.getD_cons_succ, List.getD_cons_zero]
        have d35 : S 35 = .bool true := (hd 35 (by kernel_rfl)).2
        rw [d35]
        clear d35
        have d36 : S 36 = .bool true := (hd 36 (by kernel_rfl)).2
        rw [d36]
        clear d36
        clear hd
        refine GH.st_eq (by rfl) ?_
        go_simp
        (try with_reducible rfl)
      | 38, _, hd =>
        simp only [GH.mkL, List.getD_cons_succ, List.getD_cons_zero]
        have d37 : S 37 = .bool true := (hd 37 (by kernel_rfl)).2
        rw [d37]
        clear d37
        clear hd
        refine GH.st_call (by rfl) hb.below.size (by go_simp) ((alive10_any w').mono ?_)
        rintro e w9 ⟨rfl, hb9⟩
        exact ⟨_, rfl, hb9, rfl⟩
      | 39, _, hd =>
        simp only [GH.mkL, List.getD_cons_succ, List.getD_cons_zero]
        have d37 : S 37 = .bool true := (hd 37 (by kernel_rfl)).2
        rw [d37]
        clear d37
        have d38 : S 38 = .bool true := (hd 38 (by kernel_rfl)).2
        rw [d38]
        clear d38
        clear hd
        refine GH.st_eq (by rfl) ?_
        go_simp
        (try with_reducible rfl)
      | 40, _, hd =>
        simp only [GH.mkL, List.getD_cons_succ, List.getD_cons_zero]
        have d0 : S 0 = .agg #[.int .u64 (k0 : Nat), .int .u64 (k1 : Nat)] := (hd 0 (by kernel_rfl)).2
        rw [d0]
        clear d0
        have d1 : S 1 = .agg #[.int .u16 (g.src : Int), .int .u16 (g.dst : Int), .int .u32 (g.seq : Int), .int .u32 (g.ack : Int), .int .u8 (g.flags : Int), .slice A1 n1 c1, .slice D m d] := (hd 1 (by kernel_rfl)).2
        rw [d1]
        clear d1
        have d2 : S 2 = .pointer (some ⟨w.heap.size + 2, 0, none⟩) := (hd 2 (by kernel_rfl)).2
        rw [d2]
        clear d2
        have d3 : S 3 = .agg #[.int .u64 (kk : Nat), .bool ka, .int .u64 (kt : Nat)] := (hd 3 (by kernel_rfl)).2
        rw [d3]
        clear d3
        obtain ⟨A4, n4, c4, d4, e4, m4, H4⟩ := (hd 4 (by kernel_rfl)).2
        rw [d4]
        clear d4
        replace H4 := Lib.hid H4
        have d5 : S 5 = .slice Ak nk ck := (hd 5 (by kernel_rfl)).2
        rw [d5]
        clear d5
        have d6 : S 6 = .bool true := (hd 6 (by kernel_rfl)).2
        rw [d6]
        clear d6
        have d7 : S 7 = .bool true := (hd 7 (by kernel_rfl)).2
        rw [d7]
        clear d7
        have d8 : S 8 = .agg #[.int .u64 (k0 : Nat), .int .u64 (k1 : Nat)] := (hd 8 (by kernel_rfl)).2
        rw [d8]
        clear d8
        have d9 : S 9 = .agg #[.int .u16 (g.src : Int), .int .u16 (g.dst : Int), .int .u32 (g.seq : Int), .int .u32 (g.ack : Int), .int .u8 (g.flags : Int), .slice A1 n1 c1, .slice D m d] := (hd 9 (by kernel_rfl)).2
        rw [d9]
        clear d9
        have d10 : S 10 = .pointer (some ⟨w.heap.size + 2, 3, none⟩) := (hd 10 (by kernel_rfl)).2
        rw [d10]
        clear d10
        have d11 : S 11 = .agg #[.int .u32 (tk : Nat), .int .u32 (nc : Nat), .int .u8 (id : Nat), .bool bk, .bool ja, .int .u64 (jt : Nat)] := (hd 11 (by kernel_rfl)).2
        rw [d11]
        clear d11
        obtain ⟨A12, n12, c12, d12, e12, m12, H12⟩ := (hd 12 (by kernel_rfl)).2
        rw [d12]
        clear d12
        replace H12 := Lib.hid H12
        have d13 : S 13 = .slice Aj nj cj := (hd 13 (by kernel_rfl)).2
        rw [d13]
        clear d13
        have d14 : S 14 = .bool true := (hd 14 (by kernel_rfl)).2
        rw [d14]
        clear d14
        have d15 : S 15 = .bool true := (hd 15 (by kernel_rfl)).2
        rw [d15]
        clear d15
        have d16 : S 16 = .bool true := (hd 16 (by kernel_rfl)).2
        rw [d16]
        clear d16
        have d17 : S 17 = .agg #[.int .u64 (k0 : Nat), .int .u64 (k1 : Nat)] := (hd 17 (by kernel_rfl)).2
        rw [d17]
        clear d17
        have d18 : S 18 = .agg #[.int .u16 (g.src : Int), .int .u16 (g.dst : Int), .int .u32 (g.seq : Int), .int .u32 (g.ack : Int), .int .u8 (g.flags : Int), .slice A1 n1 c1, .slice D m d] := (hd 18 (by kernel_rfl)).2
        rw [d18]
        clear d18
        have d19 : S 19 = .pointer (some ⟨w.heap.size + 2, 9, none⟩) := (hd 19 (by kernel_rfl)).2
        rw [d19]
        clear d19
        have d20 : S 20 = .agg #[.bool f, .bool p, .int .u64 (sq : Nat), .int .u64 (ak : Nat), .int .u32 (wn : Nat), .int .u64 (dt : Nat)] := (hd 20 (by kernel_rfl)).2
        rw [d20]
        clear d20
        obtain ⟨A21, n21, c21, d21, e21, m21, H21⟩ := (hd 21 (by kernel_rfl)).2
        rw [d21]
        clear d21
        replace H21 := Lib.hid H21
        have d22 : S 22 = .slice Ad nd cd := (hd 22 (by kernel_rfl)).2
        rw [d22]
        clear d22
        have d23 : S 23 = .bool true := (hd 23 (by kernel_rfl)).2
        rw [d23]
        clear d23
        have d24 : S 24 = .bool true := (hd 24 (by kernel_rfl)).2
        rw [d24]
        clear d24
        have d25 : S 25 = .bool true := (hd 25 (by kernel_rfl)).2
        rw [d25]
        clear d25
        have d26 : S 26 = .agg #[.int .u64 (k0 : Nat), .int .u64 (k1 : Nat)] := (hd 26 (by kernel_rfl)).2
        rw [d26]
        clear d26
        have d27 : S 27 = .agg #[.int .u16 (g.src : Int), .int .u16 (g.dst : Int), .int .u32 (g.seq : Int), .int .u32 (g.ack : Int), .int .u8 (g.flags : Int), .slice A1 n1 c1, .slice D m d] := (hd 27 (by kernel_rfl)).2
        rw [d27]
        clear d27
        have d28 : S 28 = .pointer (some ⟨w.heap.size + 2, 15, none⟩) := (hd 28 (by kernel_rfl)).2
        rw [d28]
        clear d28
        have d29 : S 29 = .agg #[.int .u8 (kd : Nat), .int .u32 (nm : Nat), .int .u8 (wi : Nat), .int .u8 (pa : Nat), .bool wb, .int .u64 (wt : Nat)] := (hd 29 (by kernel_rfl)).2
        rw [d29]
        clear d29
        obtain ⟨A30, n30, c30, d30, e30, m30, H30⟩ := (hd 30 (by kernel_rfl)).2
        rw [d30]
        clear d30
        replace H30 := Lib.hid H30
        have d31 : S 31 = .pointer (some ⟨w.heap.size + 2, 15, none⟩) := (hd 31 (by kernel_rfl)).2
        rw [d31]
        clear d31
        have d32 : S 32 = .pointer (some ⟨w.heap.size + 2, 15, none⟩) := (hd 32 (by kernel_rfl)).2
        rw [d32]
        clear d32
        have d33 : S 33 = .int .u8 (kd : Nat) := (hd 33 (by kernel_rfl)).2
        rw [d33]
        clear d33
        have d34 : S 34 = .slice Aw nw cw := (hd 34 (by kernel_rfl)).2
        rw [d34]
        clear d34
        have d35 : S 35 = .bool true := (hd 35 (by kernel_rfl)).2
        rw [d35]
        clear d35
        have d36 : S 36 = .bool true := (hd 36 (by kernel_rfl)).2
        rw [d36]
        clear d36
        have d37 : S 37 = .bool true := (hd 37 (by kernel_rfl)).2
        rw [d37]
        clear d37
        have d38 : S 38 = .bool true := (hd 38 (by kernel_rfl)).2
        rw [d38]
        clear d38
        have d39 : S 39 = .bool true := (hd 39 (by kernel_rfl)).2
        rw [d39]
        clear d39
        clear hd
        refine GH.st_eq (by rfl) ?_
        go_simp
        (try with_reducible rfl)
      | nx + 41, hjx, _ => omega
    intro S w' hb hG
    simp only [GH.mkL, List.drop_succ_cons, List.drop_zero]
    have d40 : S 40 = .bool true := hG 40 (by omega)
    rw [d40]
    clear d40
    clear hG
    have BF := Lib.hid (b1.out.trans (hb.below.mono b1.out.size))
    clear hb
    refine wpList_nil ?_
    go_wp2_with fail
    go_ret
    exact ⟨rfl, BF.out⟩
end Go.Proofs.Ytbiimgfocgbdaaa
