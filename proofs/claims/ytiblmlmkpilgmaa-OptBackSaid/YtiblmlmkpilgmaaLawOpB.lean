/- Layer 8: the law OptBack answers true, and nothing that was there has turned. -/
import Derived.Test.YtiblmlmkpilgmaaOp8
import Derived.Test.YtiblmlmkpilgmaaOp9
import Derived.Test.YtiblmlmkpilgmaaOpenOp
import Derived.Test.YtiblmlmkpilgmaaOrdB
import Derived.Deep.Cut
import Derived.Laws.StructEq
namespace Go.Proofs.Ytiblmlmkpilgmaa
open Go.RowKit Go.ChangeShapes Go.WideShapes Go.ChangeAt
set_option linter.unusedVariables false
set_option linter.unusedSimpArgs false
theorem option_key {kd : Nat} {lb : List Nat} {k t : Nat} {a : Bool} (h : KeyIs kd lb k t a) : lb = keyB k t a ∧ kd = 1 := ⟨h.hb, h.hkd⟩
theorem keyB_f (k t s : Nat) : keyB k t false = keyB k s false := rfl
theorem joinB_f (tk nc id t s : Nat) (bk : Bool) : joinB tk nc id bk false t = joinB tk nc id bk false s := rfl
theorem keyW {k t : Nat} {a : Bool} (hk : q64 k) (ht : q64 t) : KeyIs 1 (keyB k t a) k (if a then t else 0) a := by
  cases a
  · exact ⟨rfl, rfl, hk, by show q64 0; unfold q64; omega, fun _ => rfl⟩
  · exact ⟨rfl, rfl, hk, ht, fun h => by cases h⟩
theorem joinW' {tk nc id t : Nat} {bk a : Bool} (h1 : q32 tk) (h2 : q32 nc) (h3 : id < 256) (ht : q64 t) : JoinIs 2 (joinB tk nc id bk a t) tk nc id bk a (if a then t else 0) := by
  cases a
  · exact ⟨rfl, rfl, h1, h2, h3, by show q64 0; unfold q64; omega, fun _ => rfl⟩
  · exact ⟨rfl, rfl, h1, h2, h3, ht, fun h => by cases h⟩
theorem tagB_byte (t : Nat) (a : Bool) : ∀ x ∈ tagB t a, x < 256 := by
  cases a
  · simp [tagB]
  · exact be_byte 8 t
theorem keyB_byte (k t : Nat) (a : Bool) : ∀ x ∈ keyB k t a, x < 256 := by
  intro x hx
  rcases List.mem_append.1 hx with h | h
  · exact be_byte 8 k x h
  · exact tagB_byte t a x h
theorem joinB_byte {tk nc id t : Nat} {bk a : Bool} (h : id < 256) : ∀ x ∈ joinB tk nc id bk a t, x < 256 := by
  intro x hx
  have hb := bitN_lt bk
  unfold joinB at hx
  simp only [List.mem_append, List.mem_cons] at hx
  rcases hx with hx | hx | hx | hx | hx
  · exact be_byte 4 tk x hx
  · exact be_byte 4 nc x hx
  · omega
  · omega
  · exact tagB_byte t a x hx
theorem dataB_byte (f p : Bool) (sq ak wn t : Nat) : ∀ x ∈ dataB f p sq ak wn t, x < 256 := by
  intro x hx
  have hf := bitN_lt f
  have hp := bitN_lt p
  unfold dataB at hx
  simp only [List.mem_append, List.mem_cons] at hx
  rcases hx with hx | hx | hx | hx | hx
  · omega
  · exact be_byte 8 sq x hx
  · exact be_byte 8 ak x hx
  · exact be_byte 4 wn x hx
  · exact be_byte 8 t x hx
theorem wordB_byte {nm id pa t : Nat} {bk : Bool} (h : id < 256) (h2 : pa < 256) : ∀ x ∈ wordB nm id pa bk t, x < 256 := by
  intro x hx
  have hb := bitN_lt bk
  unfold wordB at hx
  simp only [List.mem_append, List.mem_cons] at hx
  rcases hx with hx | hx | hx | hx | hx
  · exact be_byte 4 nm x hx
  · omega
  · omega
  · omega
  · exact be_byte 8 t x hx
theorem keyB_len (k t : Nat) (a : Bool) : (keyB k t a).length ≤ 10000 := by cases a <;> simp [keyB, tagB, be_len]
theorem joinB_len (tk nc id t : Nat) (bk a : Bool) : (joinB tk nc id bk a t).length ≤ 10000 := by cases a <;> simp [joinB, tagB, be_len]
theorem wordB_len (nm id pa t : Nat) (bk : Bool) : (wordB nm id pa bk t).length ≤ 10000 := by simp [wordB, be_len]
theorem neqOK (kk : Nat) (ka : Bool) (kt : Nat) (w : World) : (binOp .neq 26 (.agg #[.int .u64 (kk : Int), .bool ka, .int .u64 (kt : Int)]) (.agg #[.int .u64 (kk : Int), .bool ka, .int .u64 (kt : Int)])).run Try.prog w = .ok (.bool false) w := by
  have h : (Op.equalIn 10000 26 (.agg #[.int .u64 (kk : Int), .bool ka, .int .u64 (kt : Int)]) (.agg #[.int .u64 (kk : Int), .bool ka, .int .u64 (kt : Int)])).run Try.prog w = .ok true w := by
    rw [show (10000 : Nat) = 9999 + 1 from rfl, run_equalIn_agg w 9999 26 _ _ (by kernel_rfl) (by kernel_rfl)]
    simp [go_sem]
  rw [run_neq_struct, h]
  rfl
theorem neqOJ (tk : Nat) (nc : Nat) (id : Nat) (bk : Bool) (ja : Bool) (jt : Nat) (w : World) : (binOp .neq 29 (.agg #[.int .u32 (tk : Int), .int .u32 (nc : Int), .int .u8 (id : Int), .bool bk, .bool ja, .int .u64 (jt : Int)]) (.agg #[.int .u32 (tk : Int), .int .u32 (nc : Int), .int .u8 (id : Int), .bool bk, .bool ja, .int .u64 (jt : Int)])).run Try.prog w = .ok (.bool false) w := by
  have h : (Op.equalIn 10000 29 (.agg #[.int .u32 (tk : Int), .int .u32 (nc : Int), .int .u8 (id : Int), .bool bk, .bool ja, .int .u64 (jt : Int)]) (.agg #[.int .u32 (tk : Int), .int .u32 (nc : Int), .int .u8 (id : Int), .bool bk, .bool ja, .int .u64 (jt : Int)])).run Try.prog w = .ok true w := by
    rw [show (10000 : Nat) = 9999 + 1 from rfl, run_equalIn_agg w 9999 29 _ _ (by kernel_rfl) (by kernel_rfl)]
    simp [go_sem]
  rw [run_neq_struct, h]
  rfl
theorem neqOD (f : Bool) (p : Bool) (sq : Nat) (ak : Nat) (wn : Nat) (dt : Nat) (w : World) : (binOp .neq 31 (.agg #[.bool f, .bool p, .int .u64 (sq : Int), .int .u64 (ak : Int), .int .u32 (wn : Int), .int .u64 (dt : Int)]) (.agg #[.bool f, .bool p, .int .u64 (sq : Int), .int .u64 (ak : Int), .int .u32 (wn : Int), .int .u64 (dt : Int)])).run Try.prog w = .ok (.bool false) w := by
  have h : (Op.equalIn 10000 31 (.agg #[.bool f, .bool p, .int .u64 (sq : Int), .int .u64 (ak : Int), .int .u32 (wn : Int), .int .u64 (dt : Int)]) (.agg #[.bool f, .bool p, .int .u64 (sq : Int), .int .u64 (ak : Int), .int .u32 (wn : Int), .int .u64 (dt : Int)])).run Try.prog w = .ok true w := by
    rw [show (10000 : Nat) = 9999 + 1 from rfl, run_equalIn_agg w 9999 31 _ _ (by kernel_rfl) (by kernel_rfl)]
    simp [go_sem]
  rw [run_neq_struct, h]
  rfl
theorem neqOW (kd : Nat) (nm : Nat) (wi : Nat) (pa : Nat) (wb : Bool) (wt : Nat) (w : World) : (binOp .neq 33 (.agg #[.int .u8 (kd : Int), .int .u32 (nm : Int), .int .u8 (wi : Int), .int .u8 (pa : Int), .bool wb, .int .u64 (wt : Int)]) (.agg #[.int .u8 (kd : Int), .int .u32 (nm : Int), .int .u8 (wi : Int), .int .u8 (pa : Int), .bool wb, .int .u64 (wt : Int)])).run Try.prog w = .ok (.bool false) w := by
  have h : (Op.equalIn 10000 33 (.agg #[.int .u8 (kd : Int), .int .u32 (nm : Int), .int .u8 (wi : Int), .int .u8 (pa : Int), .bool wb, .int .u64 (wt : Int)]) (.agg #[.int .u8 (kd : Int), .int .u32 (nm : Int), .int .u8 (wi : Int), .int .u8 (pa : Int), .bool wb, .int .u64 (wt : Int)])).run Try.prog w = .ok true w := by
    rw [show (10000 : Nat) = 9999 + 1 from rfl, run_equalIn_agg w 9999 33 _ _ (by kernel_rfl) (by kernel_rfl)]
    simp [go_sem]
  rw [run_neq_struct, h]
  rfl
set_option maxRecDepth 20000 in
set_option maxHeartbeats 16000000 in
theorem optBack_walk (x : OA) (kd0 : Nat) (A : Option Addr) (n c : Nat) (lb : List Nat) (w : World) (hx : x.bd) (h : Rd w w.heap.size 1 A n (ns .u8 lb)) (hnc : n ≤ c) (hb : ∀ x ∈ lb, x < 256) :
    Calls Try.prog 5 #[.agg x.cs, .agg #[.int .u8 (kd0 : Int), .slice A n c]] w fun e w' => e = .returned (.bool true) ∧ Below w.heap.size w w' := by
  obtain ⟨kk, ka, kt, tk, nc, id, bk, ja, jt, f, p, sq, ak, wn, dt, kd, nm, wi, pa, wb, wt⟩ := x
  obtain ⟨hkk, hkt, htk, hnc, hid, hjt, hsq, hak, hwn, hdt, hkd, hnm, hwi, hpa, hwt⟩ := hx
  unfold OA.cs at *
  dsimp only at *
  have hb0 : Below w.heap.size w ((w.alloc (.cells #[.int .u64 (kk : Int), .bool ka, .int .u64 (kt : Int), .int .u32 (tk : Int), .int .u32 (nc : Int), .int .u8 (id : Int), .bool bk, .bool ja, .int .u64 (jt : Int), .bool f, .bool p, .int .u64 (sq : Int), .int .u64 (ak : Int), .int .u32 (wn : Int), .int .u64 (dt : Int), .int .u8 (kd : Int), .int .u32 (nm : Int), .int .u8 (wi : Int), .int .u8 (pa : Int), .bool wb, .int .u64 (wt : Int)] 35)).alloc (.cells #[.int .u8 (kd0 : Int), .slice A n c] 39)) := ((Below.refl _ _).alloc (Nat.le_refl _) _).alloc (by simp) _
  have hk1 := (Blk.new w 35 #[.int .u64 (kk : Int), .bool ka, .int .u64 (kt : Int), .int .u32 (tk : Int), .int .u32 (nc : Int), .int .u8 (id : Int), .bool bk, .bool ja, .int .u64 (jt : Int), .bool f, .bool p, .int .u64 (sq : Int), .int .u64 (ak : Int), .int .u32 (wn : Int), .int .u64 (dt : Int), .int .u8 (kd : Int), .int .u32 (nm : Int), .int .u8 (wi : Int), .int .u8 (pa : Int), .bool wb, .int .u64 (wt : Int)]).alloc (.cells #[.int .u8 (kd0 : Int), .slice A n c] 39)
  have hk2 := Blk.new (w.alloc (.cells #[.int .u64 (kk : Int), .bool ka, .int .u64 (kt : Int), .int .u32 (tk : Int), .int .u32 (nc : Int), .int .u8 (id : Int), .bool bk, .bool ja, .int .u64 (jt : Int), .bool f, .bool p, .int .u64 (sq : Int), .int .u64 (ak : Int), .int .u32 (wn : Int), .int .u64 (dt : Int), .int .u8 (kd : Int), .int .u32 (nm : Int), .int .u8 (wi : Int), .int .u8 (pa : Int), .bool wb, .int .u64 (wt : Int)] 35)) 39 #[.int .u8 (kd0 : Int), .slice A n c]
  rw [show (w.alloc (.cells #[.int .u64 (kk : Int), .bool ka, .int .u64 (kt : Int), .int .u32 (tk : Int), .int .u32 (nc : Int), .int .u8 (id : Int), .bool bk, .bool ja, .int .u64 (jt : Int), .bool f, .bool p, .int .u64 (sq : Int), .int .u64 (ak : Int), .int .u32 (wn : Int), .int .u64 (dt : Int), .int .u8 (kd : Int), .int .u32 (nm : Int), .int .u8 (wi : Int), .int .u8 (pa : Int), .bool wb, .int .u64 (wt : Int)] 35)).heap.size = w.heap.size + 1 by simp] at hk2
  have KX := Lib.hid hk1
  have KO := Lib.hid hk2
  have B := Lib.hid hb0
  have HR := Lib.hid h
  have HB := Lib.hid hb
  have Hkk := Lib.hid hkk
  have Hkt := Lib.hid hkt
  have Htk := Lib.hid htk
  have Hnc := Lib.hid hnc
  have Hid := Lib.hid hid
  have Hjt := Lib.hid hjt
  have Hsq := Lib.hid hsq
  have Hak := Lib.hid hak
  have Hwn := Lib.hid hwn
  have Hdt := Lib.hid hdt
  have Hkd := Lib.hid hkd
  have Hnm := Lib.hid hnm
  have Hwi := Lib.hid hwi
  have Hpa := Lib.hid hpa
  have Hwt := Lib.hid hwt
  obtain ⟨q0, q1⟩ := ptc2 hk2
  clear hb0 h hb hk1 hk2 hkk hkt htk hnc hid hjt hsq hak hwn hdt hkd hnm hwi hpa hwt
  go_enter Try.func5, Try.ntmps5
  by_cases hn : 300 < n
  · have hn' : (300 : Int) < (n : Int) := by omega
    go_wp2_with fail
    go_ret
    exact ⟨rfl, B.out⟩
  have hn' : ¬ (300 : Int) < (n : Int) := by omega
  have hn3 : n ≤ 10000 := by omega
  clear hn
  go_upto_region 3 with (fail)
  generalize (w.alloc (.cells #[.int .u64 (kk : Int), .bool ka, .int .u64 (kt : Int), .int .u32 (tk : Int), .int .u32 (nc : Int), .int .u8 (id : Int), .bool bk, .bool ja, .int .u64 (jt : Int), .bool f, .bool p, .int .u64 (sq : Int), .int .u64 (ak : Int), .int .u32 (wn : Int), .int .u64 (dt : Int), .int .u8 (kd : Int), .int .u32 (nm : Int), .int .u8 (wi : Int), .int .u8 (pa : Int), .bool wb, .int .u64 (wt : Int)] 35)).alloc (.cells #[.int .u8 (kd0 : Int), .slice A n c] 39) = w0 at *
  obtain ⟨T, hT⟩ : ∃ T, T = w.heap.size := ⟨_, rfl⟩
  rw [← hT] at KX KO ⊢
  have HT := Lib.hid hT
  clear hT q0 q1
  have x0 : w0.cell? ⟨T, 0, none⟩ = some (.int .u64 (kk : Int)) := by rw [KX.out.cell]; rfl
  have x1 : w0.cell? ⟨T, 1, none⟩ = some (.bool ka) := by rw [KX.out.cell]; rfl
  have x2 : w0.cell? ⟨T, 2, none⟩ = some (.int .u64 (kt : Int)) := by rw [KX.out.cell]; rfl
  go_wp2_with fail
  refine (keyOpt_any kk kt ka w0 Hkk.out Hkt.out).mono ?_
  rintro e w1 ⟨⟨v, rfl, hN⟩, hb⟩
  obtain ⟨A1, n1, c1, rfl, hnc1, hl1, hr1⟩ := hN.out
  clear x0 x1 x2
  replace KX := Lib.hid (KX.out.below hb KX.out.lt)
  replace KO := Lib.hid (KO.out.below hb KO.out.lt)
  replace B := Lib.hid (B.out.trans (hb.mono B.out.size))
  have hn1 : n1 ≤ 10000 := by rw [← hl1.out]; exact (keyB_len _ _ _)
  clear hb hN hl1
  go_wp2_with fail
  refine (parseKey_any 1 A1 n1 c1 (keyB kk kt ka) w1 hr1.out hnc1 (keyB_byte _ _ _) hn1).mono ?_
  rintro e w2 ⟨hp, hb⟩
  replace KX := Lib.hid (KX.out.below hb KX.out.lt)
  replace KO := Lib.hid (KO.out.below hb KO.out.lt)
  replace B := Lib.hid (B.out.trans (hb.mono B.out.size))
  clear hb hr1 hn1 hnc1
  obtain ⟨k', kt1, a', ok, rfl, hR⟩ := keyPost_r hp
  obtain ⟨e1, e2, e3, e4⟩ := hR.one (.inl ⟨rfl, keyW Hkk.out Hkt.out⟩)
  rw [e1, e3, e4]
  have HK1 := Lib.hid e2
  clear hR hp e1 e2 e3 e4 k' a' ok
  have LTS := Lib.hid (show T + 1 < w2.heap.size from KO.out.lt)
  have hba : Below w2.heap.size w2 (w2.alloc (.cells #[.int .u64 (kk : Int), .bool ka, .int .u64 (kt1 : Int)] 26)) := (Below.refl _ _).alloc (Nat.le_refl _) _
  replace KX := Lib.hid (KX.out.below hba KX.out.lt)
  replace KO := Lib.hid (KO.out.below hba KO.out.lt)
  replace B := Lib.hid (B.out.trans (hba.mono B.out.size))
  have KK := Lib.hid (Blk.new w2 26 #[.int .u64 (kk : Int), .bool ka, .int .u64 (kt1 : Int)])
  clear hba
  have x3 : (w2.alloc (.cells #[.int .u64 (kk : Int), .bool ka, .int .u64 (kt1 : Int)] 26)).cell? ⟨T, 3, none⟩ = some (.int .u32 (tk : Int)) := by rw [KX.out.cell]; rfl
  have x4 : (w2.alloc (.cells #[.int .u64 (kk : Int), .bool ka, .int .u64 (kt1 : Int)] 26)).cell? ⟨T, 4, none⟩ = some (.int .u32 (nc : Int)) := by rw [KX.out.cell]; rfl
  have x5 : (w2.alloc (.cells #[.int .u64 (kk : Int), .bool ka, .int .u64 (kt1 : Int)] 26)).cell? ⟨T, 5, none⟩ = some (.int .u8 (id : Int)) := by rw [KX.out.cell]; rfl
  have x6 : (w2.alloc (.cells #[.int .u64 (kk : Int), .bool ka, .int .u64 (kt1 : Int)] 26)).cell? ⟨T, 6, none⟩ = some (.bool bk) := by rw [KX.out.cell]; rfl
  have x7 : (w2.alloc (.cells #[.int .u64 (kk : Int), .bool ka, .int .u64 (kt1 : Int)] 26)).cell? ⟨T, 7, none⟩ = some (.bool ja) := by rw [KX.out.cell]; rfl
  have x8 : (w2.alloc (.cells #[.int .u64 (kk : Int), .bool ka, .int .u64 (kt1 : Int)] 26)).cell? ⟨T, 8, none⟩ = some (.int .u64 (jt : Int)) := by rw [KX.out.cell]; rfl
  go_wp2_with fail
  generalize w2.alloc (.cells #[.int .u64 (kk : Int), .bool ka, .int .u64 (kt1 : Int)] 26) = w3 at *
  obtain ⟨Nk, hN⟩ : ∃ N, N = w2.heap.size := ⟨_, rfl⟩
  rw [← hN] at KK ⊢
  have LTKey := Lib.hid (show T + 1 < Nk from by rw [hN]; exact LTS.out)
  clear hN LTS
  refine (joinOpt_any tk nc id jt bk ja w3 Htk.out Hnc.out Hid.out Hjt.out).mono ?_
  rintro e w4 ⟨⟨v, rfl, hN⟩, hb⟩
  obtain ⟨A1, n1, c1, rfl, hnc1, hl1, hr1⟩ := hN.out
  clear x3 x4 x5 x6 x7 x8
  replace KX := Lib.hid (KX.out.below hb KX.out.lt)
  replace KO := Lib.hid (KO.out.below hb KO.out.lt)
  replace KK := Lib.hid (KK.out.below hb KK.out.lt)
  replace B := Lib.hid (B.out.trans (hb.mono B.out.size))
  have hn1 : n1 ≤ 10000 := by rw [← hl1.out]; exact (joinB_len _ _ _ _ _ _)
  clear hb hN hl1
  go_wp2_with fail
  refine (parseJoin_any 2 A1 n1 c1 (joinB tk nc id bk ja jt) w4 hr1.out hnc1 (joinB_byte Hid.out) hn1).mono ?_
  rintro e w5 ⟨hp, hb⟩
  replace KX := Lib.hid (KX.out.below hb KX.out.lt)
  replace KO := Lib.hid (KO.out.below hb KO.out.lt)
  replace KK := Lib.hid (KK.out.below hb KK.out.lt)
  replace B := Lib.hid (B.out.trans (hb.mono B.out.size))
  clear hb hr1 hn1 hnc1
  obtain ⟨tk', nc', id', bk', ja', jt1, ok, rfl, hR⟩ := joinPost_r hp
  obtain ⟨e1, e2, e3, e4, e5, e6, e7⟩ := hR.one (.inl ⟨rfl, joinW' Htk.out Hnc.out Hid.out Hjt.out⟩)
  rw [e1, e2, e3, e4, e5, e7]
  have HJ1 := Lib.hid e6
  clear hR hp e1 e2 e3 e4 e5 e6 e7 tk' nc' id' bk' ja' ok
  have LTS := Lib.hid (show T + 1 < w5.heap.size ∧ Nk < w5.heap.size from ⟨KO.out.lt, KK.out.lt⟩)
  have hba : Below w5.heap.size w5 (w5.alloc (.cells #[.int .u32 (tk : Int), .int .u32 (nc : Int), .int .u8 (id : Int), .bool bk, .bool ja, .int .u64 (jt1 : Int)] 29)) := (Below.refl _ _).alloc (Nat.le_refl _) _
  replace KX := Lib.hid (KX.out.below hba KX.out.lt)
  replace KO := Lib.hid (KO.out.below hba KO.out.lt)
  replace KK := Lib.hid (KK.out.below hba KK.out.lt)
  replace B := Lib.hid (B.out.trans (hba.mono B.out.size))
  have KJ := Lib.hid (Blk.new w5 29 #[.int .u32 (tk : Int), .int .u32 (nc : Int), .int .u8 (id : Int), .bool bk, .bool ja, .int .u64 (jt1 : Int)])
  clear hba
  have x9 : (w5.alloc (.cells #[.int .u32 (tk : Int), .int .u32 (nc : Int), .int .u8 (id : Int), .bool bk, .bool ja, .int .u64 (jt1 : Int)] 29)).cell? ⟨T, 9, none⟩ = some (.bool f) := by rw [KX.out.cell]; rfl
  have x10 : (w5.alloc (.cells #[.int .u32 (tk : Int), .int .u32 (nc : Int), .int .u8 (id : Int), .bool bk, .bool ja, .int .u64 (jt1 : Int)] 29)).cell? ⟨T, 10, none⟩ = some (.bool p) := by rw [KX.out.cell]; rfl
  have x11 : (w5.alloc (.cells #[.int .u32 (tk : Int), .int .u32 (nc : Int), .int .u8 (id : Int), .bool bk, .bool ja, .int .u64 (jt1 : Int)] 29)).cell? ⟨T, 11, none⟩ = some (.int .u64 (sq : Int)) := by rw [KX.out.cell]; rfl
  have x12 : (w5.alloc (.cells #[.int .u32 (tk : Int), .int .u32 (nc : Int), .int .u8 (id : Int), .bool bk, .bool ja, .int .u64 (jt1 : Int)] 29)).cell? ⟨T, 12, none⟩ = some (.int .u64 (ak : Int)) := by rw [KX.out.cell]; rfl
  have x13 : (w5.alloc (.cells #[.int .u32 (tk : Int), .int .u32 (nc : Int), .int .u8 (id : Int), .bool bk, .bool ja, .int .u64 (jt1 : Int)] 29)).cell? ⟨T, 13, none⟩ = some (.int .u32 (wn : Int)) := by rw [KX.out.cell]; rfl
  have x14 : (w5.alloc (.cells #[.int .u32 (tk : Int), .int .u32 (nc : Int), .int .u8 (id : Int), .bool bk, .bool ja, .int .u64 (jt1 : Int)] 29)).cell? ⟨T, 14, none⟩ = some (.int .u64 (dt : Int)) := by rw [KX.out.cell]; rfl
  go_wp2_with fail
  generalize w5.alloc (.cells #[.int .u32 (tk : Int), .int .u32 (nc : Int), .int .u8 (id : Int), .bool bk, .bool ja, .int .u64 (jt1 : Int)] 29) = w6 at *
  obtain ⟨Nj, hN⟩ : ∃ N, N = w5.heap.size := ⟨_, rfl⟩
  rw [← hN] at KJ ⊢
  have LTJoin := Lib.hid (show T + 1 < Nj ∧ Nk < Nj from by rw [hN]; exact LTS.out)
  clear hN LTS
  refine (dataOpt_any f p sq ak wn dt w6 Hsq.out Hak.out Hwn.out Hdt.out).mono ?_
  rintro e w7 ⟨⟨v, rfl, hN⟩, hb⟩
  obtain ⟨A1, n1, c1, rfl, hnc1, hl1, hr1⟩ := hN.out
  clear x9 x10 x11 x12 x13 x14
  replace KX := Lib.hid (KX.out.below hb KX.out.lt)
  replace KO := Lib.hid (KO.out.below hb KO.out.lt)
  replace KK := Lib.hid (KK.out.below hb KK.out.lt)
  replace KJ := Lib.hid (KJ.out.below hb KJ.out.lt)
  replace B := Lib.hid (B.out.trans (hb.mono B.out.size))
  have hn1 : n1 ≤ 10000 := by rw [← hl1.out]; exact (by rw [dataB_len]; omega)
  clear hb hN hl1
  go_wp2_with fail
  refine (parseData_any 3 A1 n1 c1 (dataB f p sq ak wn dt) w7 hr1.out hnc1 (dataB_byte _ _ _ _ _ _) hn1).mono ?_
  rintro e w8 ⟨hp, hb⟩
  replace KX := Lib.hid (KX.out.below hb KX.out.lt)
  replace KO := Lib.hid (KO.out.below hb KO.out.lt)
  replace KK := Lib.hid (KK.out.below hb KK.out.lt)
  replace KJ := Lib.hid (KJ.out.below hb KJ.out.lt)
  replace B := Lib.hid (B.out.trans (hb.mono B.out.size))
  clear hb hr1 hn1 hnc1
  obtain ⟨f', p', sq', ak', wn', t', ok, rfl, hR⟩ := dataPost_r hp
  obtain ⟨e1, e2, e3, e4, e5, e6, e7⟩ := hR.one (.inl ⟨rfl, ⟨rfl, rfl, Hsq.out, Hak.out, Hwn.out, Hdt.out⟩⟩)
  rw [e1, e2, e3, e4, e5, e6, e7]
  clear hR hp e1 e2 e3 e4 e5 e6 e7 f' p' sq' ak' wn' t' ok
  have LTS := Lib.hid (show T + 1 < w8.heap.size ∧ Nk < w8.heap.size ∧ Nj < w8.heap.size from ⟨KO.out.lt, KK.out.lt, KJ.out.lt⟩)
  have hba : Below w8.heap.size w8 (w8.alloc (.cells #[.bool f, .bool p, .int .u64 (sq : Int), .int .u64 (ak : Int), .int .u32 (wn : Int), .int .u64 (dt : Int)] 31)) := (Below.refl _ _).alloc (Nat.le_refl _) _
  replace KX := Lib.hid (KX.out.below hba KX.out.lt)
  replace KO := Lib.hid (KO.out.below hba KO.out.lt)
  replace KK := Lib.hid (KK.out.below hba KK.out.lt)
  replace KJ := Lib.hid (KJ.out.below hba KJ.out.lt)
  replace B := Lib.hid (B.out.trans (hba.mono B.out.size))
  have KD := Lib.hid (Blk.new w8 31 #[.bool f, .bool p, .int .u64 (sq : Int), .int .u64 (ak : Int), .int .u32 (wn : Int), .int .u64 (dt : Int)])
  clear hba
  have x15 : (w8.alloc (.cells #[.bool f, .bool p, .int .u64 (sq : Int), .int .u64 (ak : Int), .int .u32 (wn : Int), .int .u64 (dt : Int)] 31)).cell? ⟨T, 15, none⟩ = some (.int .u8 (kd : Int)) := by rw [KX.out.cell]; rfl
  have x16 : (w8.alloc (.cells #[.bool f, .bool p, .int .u64 (sq : Int), .int .u64 (ak : Int), .int .u32 (wn : Int), .int .u64 (dt : Int)] 31)).cell? ⟨T, 16, none⟩ = some (.int .u32 (nm : Int)) := by rw [KX.out.cell]; rfl
  have x17 : (w8.alloc (.cells #[.bool f, .bool p, .int .u64 (sq : Int), .int .u64 (ak : Int), .int .u32 (wn : Int), .int .u64 (dt : Int)] 31)).cell? ⟨T, 17, none⟩ = some (.int .u8 (wi : Int)) := by rw [KX.out.cell]; rfl
  have x18 : (w8.alloc (.cells #[.bool f, .bool p, .int .u64 (sq : Int), .int .u64 (ak : Int), .int .u32 (wn : Int), .int .u64 (dt : Int)] 31)).cell? ⟨T, 18, none⟩ = some (.int .u8 (pa : Int)) := by rw [KX.out.cell]; rfl
  have x19 : (w8.alloc (.cells #[.bool f, .bool p, .int .u64 (sq : Int), .int .u64 (ak : Int), .int .u32 (wn : Int), .int .u64 (dt : Int)] 31)).cell? ⟨T, 19, none⟩ = some (.bool wb) := by rw [KX.out.cell]; rfl
  have x20 : (w8.alloc (.cells #[.bool f, .bool p, .int .u64 (sq : Int), .int .u64 (ak : Int), .int .u32 (wn : Int), .int .u64 (dt : Int)] 31)).cell? ⟨T, 20, none⟩ = some (.int .u64 (wt : Int)) := by rw [KX.out.cell]; rfl
  go_wp2_with fail
  generalize w8.alloc (.cells #[.bool f, .bool p, .int .u64 (sq : Int), .int .u64 (ak : Int), .int .u32 (wn : Int), .int .u64 (dt : Int)] 31) = w9 at *
  obtain ⟨Nd, hN⟩ : ∃ N, N = w8.heap.size := ⟨_, rfl⟩
  rw [← hN] at KD ⊢
  have LTData := Lib.hid (show T + 1 < Nd ∧ Nk < Nd ∧ Nj < Nd from by rw [hN]; exact LTS.out)
  clear hN LTS
  refine (wordOpt_any kd nm wi pa wt wb w9 Hnm.out Hwi.out Hpa.out Hwt.out).mono ?_
  rintro e w10 ⟨⟨v, rfl, hN⟩, hb⟩
  obtain ⟨A1, n1, c1, rfl, hnc1, hl1, hr1⟩ := hN.out
  clear x15 x16 x17 x18 x19 x20
  replace KX := Lib.hid (KX.out.below hb KX.out.lt)
  replace KO := Lib.hid (KO.out.below hb KO.out.lt)
  replace KK := Lib.hid (KK.out.below hb KK.out.lt)
  replace KJ := Lib.hid (KJ.out.below hb KJ.out.lt)
  replace KD := Lib.hid (KD.out.below hb KD.out.lt)
  replace B := Lib.hid (B.out.trans (hb.mono B.out.size))
  have hn1 : n1 ≤ 10000 := by rw [← hl1.out]; exact (wordB_len _ _ _ _ _)
  clear hb hN hl1
  go_wp2_with fail
  refine (parseWord_any kd A1 n1 c1 (wordB nm wi pa wb wt) w10 hr1.out hnc1 (wordB_byte Hwi.out Hpa.out) hn1).mono ?_
  rintro e w11 ⟨hp, hb⟩
  replace KX := Lib.hid (KX.out.below hb KX.out.lt)
  replace KO := Lib.hid (KO.out.below hb KO.out.lt)
  replace KK := Lib.hid (KK.out.below hb KK.out.lt)
  replace KJ := Lib.hid (KJ.out.below hb KJ.out.lt)
  replace KD := Lib.hid (KD.out.below hb KD.out.lt)
  replace B := Lib.hid (B.out.trans (hb.mono B.out.size))
  clear hb hr1 hn1 hnc1
  obtain ⟨ek, em, ei, ep, eb, et, ok, rfl, hR, hek⟩ := wordPost_r hp
  have HWR := Lib.hid (And.intro hR hek)
  clear hR hek hp
  have LTS := Lib.hid (show T + 1 < w11.heap.size ∧ Nk < w11.heap.size ∧ Nj < w11.heap.size ∧ Nd < w11.heap.size from ⟨KO.out.lt, KK.out.lt, KJ.out.lt, KD.out.lt⟩)
  have hba : Below w11.heap.size w11 (w11.alloc (.cells #[.int .u8 (ek : Int), .int .u32 (em : Int), .int .u8 (ei : Int), .int .u8 (ep : Int), .bool eb, .int .u64 (et : Int)] 33)) := (Below.refl _ _).alloc (Nat.le_refl _) _
  replace KX := Lib.hid (KX.out.below hba KX.out.lt)
  replace KO := Lib.hid (KO.out.below hba KO.out.lt)
  replace KK := Lib.hid (KK.out.below hba KK.out.lt)
  replace KJ := Lib.hid (KJ.out.below hba KJ.out.lt)
  replace KD := Lib.hid (KD.out.below hba KD.out.lt)
  replace B := Lib.hid (B.out.trans (hba.mono B.out.size))
  have KW := Lib.hid (Blk.new w11 33 #[.int .u8 (ek : Int), .int .u32 (em : Int), .int .u8 (ei : Int), .int .u8 (ep : Int), .bool eb, .int .u64 (et : Int)])
  clear hba
  go_upto_region 7 with (fail)
  generalize w11.alloc (.cells #[.int .u8 (ek : Int), .int .u32 (em : Int), .int .u8 (ei : Int), .int .u8 (ep : Int), .bool eb, .int .u64 (et : Int)] 33) = w12 at *
  obtain ⟨Nw, hN⟩ : ∃ N, N = w11.heap.size := ⟨_, rfl⟩
  rw [← hN] at KW ⊢
  have LTWord := Lib.hid (show T + 1 < Nw ∧ Nk < Nw ∧ Nj < Nw ∧ Nd < Nw from by rw [hN]; exact LTS.out)
  clear hN LTS
  go_cut [98] from 45 (fun t wc => t = .bool false ∧ wc = w12)
  case first =>
    have x0 : w12.cell? ⟨T, 0, none⟩ = some (.int .u64 (kk : Int)) := by rw [KX.out.cell]; rfl
    have x1 : w12.cell? ⟨T, 1, none⟩ = some (.bool ka) := by rw [KX.out.cell]; rfl
    have x2 : w12.cell? ⟨T, 2, none⟩ = some (.int .u64 (kt : Int)) := by rw [KX.out.cell]; rfl
    have x3 : w12.cell? ⟨T, 3, none⟩ = some (.int .u32 (tk : Int)) := by rw [KX.out.cell]; rfl
    have x4 : w12.cell? ⟨T, 4, none⟩ = some (.int .u32 (nc : Int)) := by rw [KX.out.cell]; rfl
    have x5 : w12.cell? ⟨T, 5, none⟩ = some (.int .u8 (id : Int)) := by rw [KX.out.cell]; rfl
    have x6 : w12.cell? ⟨T, 6, none⟩ = some (.bool bk) := by rw [KX.out.cell]; rfl
    have x7 : w12.cell? ⟨T, 7, none⟩ = some (.bool ja) := by rw [KX.out.cell]; rfl
    have x8 : w12.cell? ⟨T, 8, none⟩ = some (.int .u64 (jt : Int)) := by rw [KX.out.cell]; rfl
    have x9 : w12.cell? ⟨T, 9, none⟩ = some (.bool f) := by rw [KX.out.cell]; rfl
    have x10 : w12.cell? ⟨T, 10, none⟩ = some (.bool p) := by rw [KX.out.cell]; rfl
    have x11 : w12.cell? ⟨T, 11, none⟩ = some (.int .u64 (sq : Int)) := by rw [KX.out.cell]; rfl
    have x12 : w12.cell? ⟨T, 12, none⟩ = some (.int .u64 (ak : Int)) := by rw [KX.out.cell]; rfl
    have x13 : w12.cell? ⟨T, 13, none⟩ = some (.int .u32 (wn : Int)) := by rw [KX.out.cell]; rfl
    have x14 : w12.cell? ⟨T, 14, none⟩ = some (.int .u64 (dt : Int)) := by rw [KX.out.cell]; rfl
    obtain ⟨k0, k1, k2⟩ := ptc3 KK.out
    obtain ⟨j0, j1, j2, j3, j4, j5⟩ := ptc6 KJ.out
    obtain ⟨d0, d1, d2, d3, d4, d5⟩ := ptc6 KD.out
    have hnD := neqOD f p sq ak wn dt
    cases ka
    ·
      cases ja
      ·
        go_wp2_with fail
        go_meet
        case rel => exact ⟨rfl, rfl⟩
      ·
        obtain rfl : jt1 = jt := HJ1.out
        have hnJ := neqOJ tk nc id bk true jt1
        go_wp2_with fail
        go_meet
        case rel => exact ⟨rfl, rfl⟩
    ·
      obtain rfl : kt1 = kt := HK1.out
      have hnK := neqOK kk true kt1
      cases ja
      ·
        go_wp2_with fail
        go_meet
        case rel => exact ⟨rfl, rfl⟩
      ·
        obtain rfl : jt1 = jt := HJ1.out
        have hnJ := neqOJ tk nc id bk true jt1
        go_wp2_with fail
        go_meet
        case rel => exact ⟨rfl, rfl⟩
  case rest =>
  obtain ⟨rfl, rfl⟩ := hcut
  go_upto_region 9 with (fail)
  go_cut [118] from 99 (fun t wc2 => t = .bool false ∧ wc2 = wc)
  case first =>
    have x15 : wc.cell? ⟨T, 15, none⟩ = some (.int .u8 (kd : Int)) := by rw [KX.out.cell]; rfl
    have x16 : wc.cell? ⟨T, 16, none⟩ = some (.int .u32 (nm : Int)) := by rw [KX.out.cell]; rfl
    have x17 : wc.cell? ⟨T, 17, none⟩ = some (.int .u8 (wi : Int)) := by rw [KX.out.cell]; rfl
    have x18 : wc.cell? ⟨T, 18, none⟩ = some (.int .u8 (pa : Int)) := by rw [KX.out.cell]; rfl
    have x19 : wc.cell? ⟨T, 19, none⟩ = some (.bool wb) := by rw [KX.out.cell]; rfl
    have x20 : wc.cell? ⟨T, 20, none⟩ = some (.int .u64 (wt : Int)) := by rw [KX.out.cell]; rfl
    obtain ⟨e0, e1, e2, e3, e4, e5⟩ := ptc6 KW.out
    by_cases h4 : 4 ≤ kd
    · have h4' : (4 : Int) ≤ (kd : Int) := by omega
      by_cases h7 : kd ≤ 7
      · have h7' : (kd : Int) ≤ 7 := by omega
        obtain ⟨hR, hek⟩ := HWR.out
        obtain ⟨e1, e2, e3, e4, e5, e6⟩ := hR.one (.inl ⟨rfl, ⟨⟨h4, h7⟩, rfl, Hnm.out, Hwi.out, Hpa.out, Hwt.out⟩⟩)
        have hek2 : ek = kd := by rw [hek, e6]; rfl
        clear hek hR HWR h4 h7
        subst e1 e2 e3 e4 e5 e6 hek2
        have hnW := neqOW ek em ei ep eb et
        go_wp2_with fail
        go_meet
        case rel => exact ⟨rfl, rfl⟩
      · have h7' : ¬ (kd : Int) ≤ 7 := by omega
        have h7d : decide ((kd : Int) ≤ 7) = false := decide_eq_false h7'
        clear h7 h4
        go_wp2_with fail
        go_meet
        case rel => exact ⟨rfl, rfl⟩
    · have h4' : ¬ (4 : Int) ≤ (kd : Int) := by omega
      have h4d : decide ((4 : Int) ≤ (kd : Int)) = false := decide_eq_false h4'
      clear h4
      go_wp2_with fail
      go_meet
      case rel => exact ⟨rfl, rfl⟩
  case rest =>
  obtain ⟨rfl, rfl⟩ := hcut
  clear HWR HK1 HJ1 KX
  obtain ⟨q0, q1⟩ := ptc2 KO.out
  go_wp2_with fail
  refine (parseKey_any kd0 A n c lb wc (HR.out.into B.out) hnc HB.out hn3).mono ?_
  rintro e w21 ⟨hp, hb⟩
  replace KO := Lib.hid (KO.out.below hb KO.out.lt)
  replace KK := Lib.hid (KK.out.below hb KK.out.lt)
  replace KJ := Lib.hid (KJ.out.below hb KJ.out.lt)
  replace KD := Lib.hid (KD.out.below hb KD.out.lt)
  replace KW := Lib.hid (KW.out.below hb KW.out.lt)
  replace B := Lib.hid (B.out.trans (hb.mono B.out.size))
  clear hb q0 q1
  obtain ⟨k2, t2, a2, okk, rfl, hR⟩ := keyPost_r hp
  have HRKey := Lib.hid hR
  clear hR hp
  obtain ⟨z0, z1, z2⟩ := ptc3 KK.out
  have f0 := KK.out.frozen 0
  have f1 := KK.out.frozen 1
  have f2 := KK.out.frozen 2
  have hkn := pt3 (.int .u64 (k2 : Int)) (.bool a2) (.int .u64 (t2 : Int)) KK.out
  have hso := pts3 (w := w21) (T := Nk) (.int .u64 (k2 : Int)) (.bool a2) (.int .u64 (t2 : Int))
  unfold ptw3 at hkn hso
  replace KO := Lib.hid (hso.blk KO.out (show T + 1 ≠ Nk from by have := LTKey.out; have := LTJoin.out; have := LTData.out; have := LTWord.out; omega))
  replace KJ := Lib.hid (hso.blk KJ.out (show Nj ≠ Nk from by have := LTKey.out; have := LTJoin.out; have := LTData.out; have := LTWord.out; omega))
  replace KD := Lib.hid (hso.blk KD.out (show Nd ≠ Nk from by have := LTKey.out; have := LTJoin.out; have := LTData.out; have := LTWord.out; omega))
  replace KW := Lib.hid (hso.blk KW.out (show Nw ≠ Nk from by have := LTKey.out; have := LTJoin.out; have := LTData.out; have := LTWord.out; omega))
  replace KK := Lib.hid hkn
  replace B := Lib.hid (B.out.trans (hso.1.mono (by have := LTKey.out; have := LTJoin.out; have := LTData.out; have := LTWord.out; rw [← HT.out]; omega)))
  clear hkn hso
  obtain ⟨q0, q1⟩ := ptc2 KO.out
  go_wp2_with fail
  generalize ((w21.setCell ⟨Nk, 0, none⟩ (.int .u64 (k2 : Int))).setCell ⟨Nk, 1, none⟩ (.bool a2)).setCell ⟨Nk, 2, none⟩ (.int .u64 (t2 : Int)) = w22 at *
  clear z0 z1 z2 f0 f1 f2
  go_wp2_with fail
  refine (parseJoin_any kd0 A n c lb w22 (HR.out.into B.out) hnc HB.out hn3).mono ?_
  rintro e w23 ⟨hp, hb⟩
  replace KO := Lib.hid (KO.out.below hb KO.out.lt)
  replace KK := Lib.hid (KK.out.below hb KK.out.lt)
  replace KJ := Lib.hid (KJ.out.below hb KJ.out.lt)
  replace KD := Lib.hid (KD.out.below hb KD.out.lt)
  replace KW := Lib.hid (KW.out.below hb KW.out.lt)
  replace B := Lib.hid (B.out.trans (hb.mono B.out.size))
  clear hb q0 q1
  obtain ⟨j1, j2, j3, j4, j5, j6, okj, rfl, hR⟩ := joinPost_r hp
  have HRJoin := Lib.hid hR
  clear hR hp
  obtain ⟨z0, z1, z2, z3, z4, z5⟩ := ptc6 KJ.out
  have f0 := KJ.out.frozen 0
  have f1 := KJ.out.frozen 1
  have f2 := KJ.out.frozen 2
  have f3 := KJ.out.frozen 3
  have f4 := KJ.out.frozen 4
  have f5 := KJ.out.frozen 5
  have hkn := pt6 (.int .u32 (j1 : Int)) (.int .u32 (j2 : Int)) (.int .u8 (j3 : Int)) (.bool j4) (.bool j5) (.int .u64 (j6 : Int)) KJ.out
  have hso := pts6 (w := w23) (T := Nj) (.int .u32 (j1 : Int)) (.int .u32 (j2 : Int)) (.int .u8 (j3 : Int)) (.bool j4) (.bool j5) (.int .u64 (j6 : Int))
  unfold ptw6 at hkn hso
  replace KO := Lib.hid (hso.blk KO.out (show T + 1 ≠ Nj from by have := LTKey.out; have := LTJoin.out; have := LTData.out; have := LTWord.out; omega))
  replace KK := Lib.hid (hso.blk KK.out (show Nk ≠ Nj from by have := LTKey.out; have := LTJoin.out; have := LTData.out; have := LTWord.out; omega))
  replace KD := Lib.hid (hso.blk KD.out (show Nd ≠ Nj from by have := LTKey.out; have := LTJoin.out; have := LTData.out; have := LTWord.out; omega))
  replace KW := Lib.hid (hso.blk KW.out (show Nw ≠ Nj from by have := LTKey.out; have := LTJoin.out; have := LTData.out; have := LTWord.out; omega))
  replace KJ := Lib.hid hkn
  replace B := Lib.hid (B.out.trans (hso.1.mono (by have := LTKey.out; have := LTJoin.out; have := LTData.out; have := LTWord.out; rw [← HT.out]; omega)))
  clear hkn hso
  obtain ⟨q0, q1⟩ := ptc2 KO.out
  go_wp2_with fail
  generalize (((((w23.setCell ⟨Nj, 0, none⟩ (.int .u32 (j1 : Int))).setCell ⟨Nj, 1, none⟩ (.int .u32 (j2 : Int))).setCell ⟨Nj, 2, none⟩ (.int .u8 (j3 : Int))).setCell ⟨Nj, 3, none⟩ (.bool j4)).setCell ⟨Nj, 4, none⟩ (.bool j5)).setCell ⟨Nj, 5, none⟩ (.int .u64 (j6 : Int)) = w24 at *
  clear z0 z1 z2 z3 z4 z5 f0 f1 f2 f3 f4 f5
  go_wp2_with fail
  refine (parseData_any kd0 A n c lb w24 (HR.out.into B.out) hnc HB.out hn3).mono ?_
  rintro e w25 ⟨hp, hb⟩
  replace KO := Lib.hid (KO.out.below hb KO.out.lt)
  replace KK := Lib.hid (KK.out.below hb KK.out.lt)
  replace KJ := Lib.hid (KJ.out.below hb KJ.out.lt)
  replace KD := Lib.hid (KD.out.below hb KD.out.lt)
  replace KW := Lib.hid (KW.out.below hb KW.out.lt)
  replace B := Lib.hid (B.out.trans (hb.mono B.out.size))
  clear hb q0 q1
  obtain ⟨d1, d2, d3, d4, d5, d6, okd, rfl, hR⟩ := dataPost_r hp
  have HRData := Lib.hid hR
  clear hR hp
  obtain ⟨z0, z1, z2, z3, z4, z5⟩ := ptc6 KD.out
  have f0 := KD.out.frozen 0
  have f1 := KD.out.frozen 1
  have f2 := KD.out.frozen 2
  have f3 := KD.out.frozen 3
  have f4 := KD.out.frozen 4
  have f5 := KD.out.frozen 5
  have hkn := pt6 (.bool d1) (.bool d2) (.int .u64 (d3 : Int)) (.int .u64 (d4 : Int)) (.int .u32 (d5 : Int)) (.int .u64 (d6 : Int)) KD.out
  have hso := pts6 (w := w25) (T := Nd) (.bool d1) (.bool d2) (.int .u64 (d3 : Int)) (.int .u64 (d4 : Int)) (.int .u32 (d5 : Int)) (.int .u64 (d6 : Int))
  unfold ptw6 at hkn hso
  replace KO := Lib.hid (hso.blk KO.out (show T + 1 ≠ Nd from by have := LTKey.out; have := LTJoin.out; have := LTData.out; have := LTWord.out; omega))
  replace KK := Lib.hid (hso.blk KK.out (show Nk ≠ Nd from by have := LTKey.out; have := LTJoin.out; have := LTData.out; have := LTWord.out; omega))
  replace KJ := Lib.hid (hso.blk KJ.out (show Nj ≠ Nd from by have := LTKey.out; have := LTJoin.out; have := LTData.out; have := LTWord.out; omega))
  replace KW := Lib.hid (hso.blk KW.out (show Nw ≠ Nd from by have := LTKey.out; have := LTJoin.out; have := LTData.out; have := LTWord.out; omega))
  replace KD := Lib.hid hkn
  replace B := Lib.hid (B.out.trans (hso.1.mono (by have := LTKey.out; have := LTJoin.out; have := LTData.out; have := LTWord.out; rw [← HT.out]; omega)))
  clear hkn hso
  obtain ⟨q0, q1⟩ := ptc2 KO.out
  go_wp2_with fail
  generalize (((((w25.setCell ⟨Nd, 0, none⟩ (.bool d1)).setCell ⟨Nd, 1, none⟩ (.bool d2)).setCell ⟨Nd, 2, none⟩ (.int .u64 (d3 : Int))).setCell ⟨Nd, 3, none⟩ (.int .u64 (d4 : Int))).setCell ⟨Nd, 4, none⟩ (.int .u32 (d5 : Int))).setCell ⟨Nd, 5, none⟩ (.int .u64 (d6 : Int)) = w26 at *
  clear z0 z1 z2 z3 z4 z5 f0 f1 f2 f3 f4 f5
  go_wp2_with fail
  refine (parseWord_any kd0 A n c lb w26 (HR.out.into B.out) hnc HB.out hn3).mono ?_
  rintro e w27 ⟨hp, hb⟩
  replace KO := Lib.hid (KO.out.below hb KO.out.lt)
  replace KK := Lib.hid (KK.out.below hb KK.out.lt)
  replace KJ := Lib.hid (KJ.out.below hb KJ.out.lt)
  replace KD := Lib.hid (KD.out.below hb KD.out.lt)
  replace KW := Lib.hid (KW.out.below hb KW.out.lt)
  replace B := Lib.hid (B.out.trans (hb.mono B.out.size))
  clear hb q0 q1
  obtain ⟨m0, m1, m2, m3, m4, m5, okw, rfl, hR, hm0⟩ := wordPost_r hp
  have HRWord0 := Lib.hid hm0
  have HRWord := Lib.hid hR
  clear hR hp hm0
  obtain ⟨z0, z1, z2, z3, z4, z5⟩ := ptc6 KW.out
  have f0 := KW.out.frozen 0
  have f1 := KW.out.frozen 1
  have f2 := KW.out.frozen 2
  have f3 := KW.out.frozen 3
  have f4 := KW.out.frozen 4
  have f5 := KW.out.frozen 5
  have hkn := pt6 (.int .u8 (m0 : Int)) (.int .u32 (m1 : Int)) (.int .u8 (m2 : Int)) (.int .u8 (m3 : Int)) (.bool m4) (.int .u64 (m5 : Int)) KW.out
  have hso := pts6 (w := w27) (T := Nw) (.int .u8 (m0 : Int)) (.int .u32 (m1 : Int)) (.int .u8 (m2 : Int)) (.int .u8 (m3 : Int)) (.bool m4) (.int .u64 (m5 : Int))
  unfold ptw6 at hkn hso
  replace KO := Lib.hid (hso.blk KO.out (show T + 1 ≠ Nw from by have := LTKey.out; have := LTJoin.out; have := LTData.out; have := LTWord.out; omega))
  replace KK := Lib.hid (hso.blk KK.out (show Nk ≠ Nw from by have := LTKey.out; have := LTJoin.out; have := LTData.out; have := LTWord.out; omega))
  replace KJ := Lib.hid (hso.blk KJ.out (show Nj ≠ Nw from by have := LTKey.out; have := LTJoin.out; have := LTData.out; have := LTWord.out; omega))
  replace KD := Lib.hid (hso.blk KD.out (show Nd ≠ Nw from by have := LTKey.out; have := LTJoin.out; have := LTData.out; have := LTWord.out; omega))
  replace KW := Lib.hid hkn
  replace B := Lib.hid (B.out.trans (hso.1.mono (by have := LTKey.out; have := LTJoin.out; have := LTData.out; have := LTWord.out; rw [← HT.out]; omega)))
  clear hkn hso
  go_wp2_with fail
  generalize (((((w27.setCell ⟨Nw, 0, none⟩ (.int .u8 (m0 : Int))).setCell ⟨Nw, 1, none⟩ (.int .u32 (m1 : Int))).setCell ⟨Nw, 2, none⟩ (.int .u8 (m2 : Int))).setCell ⟨Nw, 3, none⟩ (.int .u8 (m3 : Int))).setCell ⟨Nw, 4, none⟩ (.bool m4)).setCell ⟨Nw, 5, none⟩ (.int .u64 (m5 : Int)) = w28 at *
  clear z0 z1 z2 z3 z4 z5 f0 f1 f2 f3 f4 f5
  have hone : (okk = true ∧ okj = false ∧ okd = false ∧ okw = false ∧ KeyIs kd0 lb k2 t2 a2) ∨ (okk = false ∧ okj = true ∧ okd = false ∧ okw = false ∧ JoinIs kd0 lb j1 j2 j3 j4 j5 j6) ∨ (okk = false ∧ okj = false ∧ okd = true ∧ okw = false ∧ DataIs kd0 lb d1 d2 d3 d4 d5 d6) ∨ (okk = false ∧ okj = false ∧ okd = false ∧ okw = true ∧ m0 = kd0 ∧ WordIs kd0 lb m1 m2 m3 m4 m5) ∨ (okk = false ∧ okj = false ∧ okd = false ∧ okw = false) := by
    rcases HRKey.out with ⟨rfl, hK⟩ | ⟨rfl, _⟩ <;> rcases HRJoin.out with ⟨rfl, hJ⟩ | ⟨rfl, _⟩ <;> rcases HRData.out with ⟨rfl, hD⟩ | ⟨rfl, _⟩ <;> rcases HRWord.out with ⟨rfl, hW⟩ | ⟨rfl, _⟩
    all_goals first
      | exact .inl ⟨rfl, rfl, rfl, rfl, hK⟩
      | exact .inr (.inl ⟨rfl, rfl, rfl, rfl, hJ⟩)
      | exact .inr (.inr (.inl ⟨rfl, rfl, rfl, rfl, hD⟩))
      | exact .inr (.inr (.inr (.inl ⟨rfl, rfl, rfl, rfl, HRWord0.out, hW⟩)))
      | exact .inr (.inr (.inr (.inr ⟨rfl, rfl, rfl, rfl⟩)))
      | (exfalso; have := hK.hkd; have := hJ.hkd; omega)
      | (exfalso; have := hK.hkd; have := hD.hkd; omega)
      | (exfalso; have := hK.hkd; have := hW.hkd; omega)
      | (exfalso; have := hJ.hkd; have := hD.hkd; omega)
      | (exfalso; have := hJ.hkd; have := hW.hkd; omega)
      | (exfalso; have := hD.hkd; have := hW.hkd; omega)
  clear HRKey HRJoin HRData HRWord HRWord0
  have HZ := Lib.hid (And.intro KO.out.lt (And.intro KK.out.lt (And.intro KJ.out.lt (And.intro KD.out.lt KW.out.lt))))
  rcases hone with ⟨rfl, rfl, rfl, rfl, hIs⟩ | ⟨rfl, rfl, rfl, rfl, hIs⟩ | ⟨rfl, rfl, rfl, rfl, hIs⟩ | ⟨rfl, rfl, rfl, rfl, rfl, hIs⟩ | ⟨rfl, rfl, rfl, rfl⟩
  ·
    obtain rfl := hIs.hkd
    have HIS := Lib.hid hIs
    clear hIs
    refine OB.wp_ord [(0, .pure), (1, .pure), (2, .pure), (3, .read), (5, .read), (4, .sole), (6, .sole), (7, .pure), (8, .pure), (9, .pure), (10, .pure), (11, .pure), (12, .read), (14, .read), (13, .sole), (15, .sole), (16, .pure), (17, .pure), (18, .pure), (19, .pure), (20, .pure), (21, .pure), (22, .read), (24, .read), (23, .sole), (25, .sole), (26, .pure), (27, .pure), (28, .pure), (29, .pure), (30, .pure), (31, .pure), (32, .read), (34, .read), (33, .sole), (35, .sole), (36, .pure), (37, .pure), (38, .pure), (39, .sole), (40, .pure), (41, .pure)] ⟨fun k => k < w28.heap.size, []⟩ (by kernel_rfl) (by kernel_rfl) (fun QQ hQ wd hwd => ?_); (try simp only [List.map_cons, List.map_nil, List.getD_cons_zero, List.getD_cons_succ])
    have hD : Below w28.heap.size w28 wd := by rw [hwd.out]; exact (Below.refl _ _).drew
    replace B := Lib.hid (B.out.trans (hD.mono B.out.size))
    replace KO := Lib.hid (KO.out.below hD KO.out.lt)
    replace KK := Lib.hid (KK.out.below hD KK.out.lt)
    have hDs := hD.size
    obtain ⟨l0, l1, l2, l3, l4⟩ := HZ.out
    clear hwd hD
    (refine OB.o_pure (v := ?_) (by rfl) (fun w' => ?_) ?_; rotate_left; (focus (go_simp; (try with_reducible rfl))); (try simp only [Act.put, List.setIfInBounds_toArray, List.set_cons_zero, List.set_cons_succ]))
    (refine OB.o_pure (v := ?_) (by rfl) (fun w' => ?_) ?_; rotate_left; (focus (go_simp; (try with_reducible rfl))); (try simp only [Act.put, List.setIfInBounds_toArray, List.set_cons_zero, List.set_cons_succ]))
    (refine OB.o_pure (v := ?_) (by rfl) (fun w' => ?_) ?_; rotate_left; (focus (go_simp; (try with_reducible rfl))); (try simp only [Act.put, List.setIfInBounds_toArray, List.set_cons_zero, List.set_cons_succ]))
    (refine OB.o_loads _ [.int .u64 (k2 : Int), .bool a2, .int .u64 (t2 : Int)] (by rfl) rfl rfl (by dsimp only; first | assumption | omega) (cells_of KK.out) (Nat.succ_pos _) (by kernel_rfl) (by kernel_rfl) ?_; simp only [Act.put, List.setIfInBounds_toArray, List.set_cons_zero, List.set_cons_succ])
    (refine OB.o_loads _ [.int .u8 1, .slice A n c] (by rfl) rfl rfl (by dsimp only; first | assumption | omega) (cells_of KO.out) (Nat.succ_pos _) (by kernel_rfl) (by kernel_rfl) ?_; simp only [Act.put, List.setIfInBounds_toArray, List.set_cons_zero, List.set_cons_succ])
    refine OB.o_sole (fun K hK => ?_)
    go_wp2_with fail
    refine (keyOpt_any k2 t2 a2 wd HIS.out.hk HIS.out.ht).mono ?_
    rintro e w29 ⟨⟨v, rfl, hN⟩, hb⟩
    obtain ⟨A1, n1, c1, rfl, _, _, hr1⟩ := hN.out
    have B2 := Lib.hid (B.out.trans (hb.mono B.out.size))
    have hs2 := hb.size
    rw [← HIS.out.hb] at hr1
    go_wp2_with fail
    refine hK _ _ (fun _ => OB.ExtB.at_ hb (fun k hk => Nat.lt_of_lt_of_le hk hDs)) ?_; clear hK K
    clear hb hN B
    refine OB.o_sole (fun K hK => ?_)
    go_wp2_with fail
    refine (sameo_any 1 A1 A n1 c1 n c lb w29 hr1.out (HR.out.into B2.out)).mono ?_
    rintro e w30 ⟨rfl, hb⟩
    have B := Lib.hid (B2.out.trans (hb.mono B2.out.size))
    have hs3 := Nat.le_trans hs2 hb.size
    go_wp2_with fail
    refine hK _ _ (fun _ => OB.ExtB.at_ hb (fun k hk => Nat.lt_of_lt_of_le hk (Nat.le_trans hDs hs2))) ?_; clear hK K
    clear hb hr1 B2
    (refine OB.o_pure (v := ?_) (by rfl) (fun w' => ?_) ?_; rotate_left; (focus (go_simp; (try with_reducible rfl))); (try simp only [Act.put, List.setIfInBounds_toArray, List.set_cons_zero, List.set_cons_succ]))
    (refine OB.o_pure (v := ?_) (by rfl) (fun w' => ?_) ?_; rotate_left; (focus (go_simp; (try with_reducible rfl))); (try simp only [Act.put, List.setIfInBounds_toArray, List.set_cons_zero, List.set_cons_succ]))
    (refine OB.o_pure (v := ?_) (by rfl) (fun w' => ?_) ?_; rotate_left; (focus (go_simp; (try with_reducible rfl))); (try simp only [Act.put, List.setIfInBounds_toArray, List.set_cons_zero, List.set_cons_succ]))
    (refine OB.o_pure (v := ?_) (by rfl) (fun w' => ?_) ?_; rotate_left; (focus (go_simp; (try with_reducible rfl))); (try simp only [Act.put, List.setIfInBounds_toArray, List.set_cons_zero, List.set_cons_succ]))
    (refine OB.o_pure (v := ?_) (by rfl) (fun w' => ?_) ?_; rotate_left; (focus (go_simp; (try with_reducible rfl))); (try simp only [Act.put, List.setIfInBounds_toArray, List.set_cons_zero, List.set_cons_succ]))
    (refine OB.o_skip (by intro h; cases h) (by rfl) ?_; simp only [Act.put, List.setIfInBounds_toArray, List.set_cons_zero, List.set_cons_succ])
    (refine OB.o_skip (by intro h; cases h) (by rfl) ?_; simp only [Act.put, List.setIfInBounds_toArray, List.set_cons_zero, List.set_cons_succ])
    (refine OB.o_pass (by rfl) ?_; simp only [Act.put, List.setIfInBounds_toArray, List.set_cons_zero, List.set_cons_succ])
    (refine OB.o_pass (by rfl) ?_; simp only [Act.put, List.setIfInBounds_toArray, List.set_cons_zero, List.set_cons_succ])
    (refine OB.o_pure (v := ?_) (by rfl) (fun w' => ?_) ?_; rotate_left; (focus (go_simp; (try with_reducible rfl))); (try simp only [Act.put, List.setIfInBounds_toArray, List.set_cons_zero, List.set_cons_succ]))
    (refine OB.o_pure (v := ?_) (by rfl) (fun w' => ?_) ?_; rotate_left; (focus (go_simp; (try with_reducible rfl))); (try simp only [Act.put, List.setIfInBounds_toArray, List.set_cons_zero, List.set_cons_succ]))
    (refine OB.o_pure (v := ?_) (by rfl) (fun w' => ?_) ?_; rotate_left; (focus (go_simp; (try with_reducible rfl))); (try simp only [Act.put, List.setIfInBounds_toArray, List.set_cons_zero, List.set_cons_succ]))
    (refine OB.o_pure (v := ?_) (by rfl) (fun w' => ?_) ?_; rotate_left; (focus (go_simp; (try with_reducible rfl))); (try simp only [Act.put, List.setIfInBounds_toArray, List.set_cons_zero, List.set_cons_succ]))
    (refine OB.o_pure (v := ?_) (by rfl) (fun w' => ?_) ?_; rotate_left; (focus (go_simp; (try with_reducible rfl))); (try simp only [Act.put, List.setIfInBounds_toArray, List.set_cons_zero, List.set_cons_succ]))
    (refine OB.o_pure (v := ?_) (by rfl) (fun w' => ?_) ?_; rotate_left; (focus (go_simp; (try with_reducible rfl))); (try simp only [Act.put, List.setIfInBounds_toArray, List.set_cons_zero, List.set_cons_succ]))
    (refine OB.o_skip (by intro h; cases h) (by rfl) ?_; simp only [Act.put, List.setIfInBounds_toArray, List.set_cons_zero, List.set_cons_succ])
    (refine OB.o_skip (by intro h; cases h) (by rfl) ?_; simp only [Act.put, List.setIfInBounds_toArray, List.set_cons_zero, List.set_cons_succ])
    (refine OB.o_pass (by rfl) ?_; simp only [Act.put, List.setIfInBounds_toArray, List.set_cons_zero, List.set_cons_succ])
    (refine OB.o_pass (by rfl) ?_; simp only [Act.put, List.setIfInBounds_toArray, List.set_cons_zero, List.set_cons_succ])
    (refine OB.o_pure (v := ?_) (by rfl) (fun w' => ?_) ?_; rotate_left; (focus (go_simp; (try with_reducible rfl))); (try simp only [Act.put, List.setIfInBounds_toArray, List.set_cons_zero, List.set_cons_succ]))
    (refine OB.o_pure (v := ?_) (by rfl) (fun w' => ?_) ?_; rotate_left; (focus (go_simp; (try with_reducible rfl))); (try simp only [Act.put, List.setIfInBounds_toArray, List.set_cons_zero, List.set_cons_succ]))
    (refine OB.o_pure (v := ?_) (by rfl) (fun w' => ?_) ?_; rotate_left; (focus (go_simp; (try with_reducible rfl))); (try simp only [Act.put, List.setIfInBounds_toArray, List.set_cons_zero, List.set_cons_succ]))
    (refine OB.o_pure (v := ?_) (by rfl) (fun w' => ?_) ?_; rotate_left; (focus (go_simp; (try with_reducible rfl))); (try simp only [Act.put, List.setIfInBounds_toArray, List.set_cons_zero, List.set_cons_succ]))
    (refine OB.o_pure (v := ?_) (by rfl) (fun w' => ?_) ?_; rotate_left; (focus (go_simp; (try with_reducible rfl))); (try simp only [Act.put, List.setIfInBounds_toArray, List.set_cons_zero, List.set_cons_succ]))
    (refine OB.o_pure (v := ?_) (by rfl) (fun w' => ?_) ?_; rotate_left; (focus (go_simp; (try with_reducible rfl))); (try simp only [Act.put, List.setIfInBounds_toArray, List.set_cons_zero, List.set_cons_succ]))
    (refine OB.o_skip (by intro h; cases h) (by rfl) ?_; simp only [Act.put, List.setIfInBounds_toArray, List.set_cons_zero, List.set_cons_succ])
    (refine OB.o_skip (by intro h; cases h) (by rfl) ?_; simp only [Act.put, List.setIfInBounds_toArray, List.set_cons_zero, List.set_cons_succ])
    (refine OB.o_pass (by rfl) ?_; simp only [Act.put, List.setIfInBounds_toArray, List.set_cons_zero, List.set_cons_succ])
    (refine OB.o_pass (by rfl) ?_; simp only [Act.put, List.setIfInBounds_toArray, List.set_cons_zero, List.set_cons_succ])
    (refine OB.o_pure (v := ?_) (by rfl) (fun w' => ?_) ?_; rotate_left; (focus (go_simp; (try with_reducible rfl))); (try simp only [Act.put, List.setIfInBounds_toArray, List.set_cons_zero, List.set_cons_succ]))
    (refine OB.o_pure (v := ?_) (by rfl) (fun w' => ?_) ?_; rotate_left; (focus (go_simp; (try with_reducible rfl))); (try simp only [Act.put, List.setIfInBounds_toArray, List.set_cons_zero, List.set_cons_succ]))
    (refine OB.o_pure (v := ?_) (by rfl) (fun w' => ?_) ?_; rotate_left; (focus (go_simp; (try with_reducible rfl))); (try simp only [Act.put, List.setIfInBounds_toArray, List.set_cons_zero, List.set_cons_succ]))
    refine OB.o_sole (fun K hK => ?_)
    go_wp2_with fail
    refine (oalive_any w30).mono ?_
    rintro e w31 ⟨rfl, hb⟩
    have B9 := Lib.hid (B.out.trans (hb.mono B.out.size))
    go_wp2_with fail
    refine hK _ _ (fun _ => OB.ExtB.at_ hb (fun k hk => Nat.lt_of_lt_of_le hk (Nat.le_trans hDs hs3))) ?_; clear hK K
    (refine OB.o_pure (v := ?_) (by rfl) (fun w' => ?_) ?_; rotate_left; (focus (go_simp; (try with_reducible rfl))); (try simp only [Act.put, List.setIfInBounds_toArray, List.set_cons_zero, List.set_cons_succ]))
    (refine OB.o_pure (v := ?_) (by rfl) (fun w' => ?_) ?_; rotate_left; (focus (go_simp; (try with_reducible rfl))); (try simp only [Act.put, List.setIfInBounds_toArray, List.set_cons_zero, List.set_cons_succ]))
    refine OB.o_nil (hQ.out _ _ ?_); clear hQ QQ
    go_wp2_with fail
    go_ret
    exact ⟨rfl, B9.out⟩
  ·
    obtain rfl := hIs.hkd
    have HIS := Lib.hid hIs
    clear hIs
    refine OB.wp_ord [(0, .pure), (1, .pure), (2, .pure), (3, .read), (5, .read), (4, .sole), (6, .sole), (7, .pure), (8, .pure), (9, .pure), (10, .pure), (11, .pure), (12, .read), (14, .read), (13, .sole), (15, .sole), (16, .pure), (17, .pure), (18, .pure), (19, .pure), (20, .pure), (21, .pure), (22, .read), (24, .read), (23, .sole), (25, .sole), (26, .pure), (27, .pure), (28, .pure), (29, .pure), (30, .pure), (31, .pure), (32, .read), (34, .read), (33, .sole), (35, .sole), (36, .pure), (37, .pure), (38, .pure), (39, .sole), (40, .pure), (41, .pure)] ⟨fun k => k < w28.heap.size, []⟩ (by kernel_rfl) (by kernel_rfl) (fun QQ hQ wd hwd => ?_); (try simp only [List.map_cons, List.map_nil, List.getD_cons_zero, List.getD_cons_succ])
    have hD : Below w28.heap.size w28 wd := by rw [hwd.out]; exact (Below.refl _ _).drew
    replace B := Lib.hid (B.out.trans (hD.mono B.out.size))
    replace KO := Lib.hid (KO.out.below hD KO.out.lt)
    replace KJ := Lib.hid (KJ.out.below hD KJ.out.lt)
    have hDs := hD.size
    obtain ⟨l0, l1, l2, l3, l4⟩ := HZ.out
    clear hwd hD
    (refine OB.o_pure (v := ?_) (by rfl) (fun w' => ?_) ?_; rotate_left; (focus (go_simp; (try with_reducible rfl))); (try simp only [Act.put, List.setIfInBounds_toArray, List.set_cons_zero, List.set_cons_succ]))
    (refine OB.o_pure (v := ?_) (by rfl) (fun w' => ?_) ?_; rotate_left; (focus (go_simp; (try with_reducible rfl))); (try simp only [Act.put, List.setIfInBounds_toArray, List.set_cons_zero, List.set_cons_succ]))
    (refine OB.o_pure (v := ?_) (by rfl) (fun w' => ?_) ?_; rotate_left; (focus (go_simp; (try with_reducible rfl))); (try simp only [Act.put, List.setIfInBounds_toArray, List.set_cons_zero, List.set_cons_succ]))
    (refine OB.o_skip (by intro h; cases h) (by rfl) ?_; simp only [Act.put, List.setIfInBounds_toArray, List.set_cons_zero, List.set_cons_succ])
    (refine OB.o_skip (by intro h; cases h) (by rfl) ?_; simp only [Act.put, List.setIfInBounds_toArray, List.set_cons_zero, List.set_cons_succ])
    (refine OB.o_pass (by rfl) ?_; simp only [Act.put, List.setIfInBounds_toArray, List.set_cons_zero, List.set_cons_succ])
    (refine OB.o_pass (by rfl) ?_; simp only [Act.put, List.setIfInBounds_toArray, List.set_cons_zero, List.set_cons_succ])
    (refine OB.o_pure (v := ?_) (by rfl) (fun w' => ?_) ?_; rotate_left; (focus (go_simp; (try with_reducible rfl))); (try simp only [Act.put, List.setIfInBounds_toArray, List.set_cons_zero, List.set_cons_succ]))
    (refine OB.o_pure (v := ?_) (by rfl) (fun w' => ?_) ?_; rotate_left; (focus (go_simp; (try with_reducible rfl))); (try simp only [Act.put, List.setIfInBounds_toArray, List.set_cons_zero, List.set_cons_succ]))
    (refine OB.o_pure (v := ?_) (by rfl) (fun w' => ?_) ?_; rotate_left; (focus (go_simp; (try with_reducible rfl))); (try simp only [Act.put, List.setIfInBounds_toArray, List.set_cons_zero, List.set_cons_succ]))
    (refine OB.o_pure (v := ?_) (by rfl) (fun w' => ?_) ?_; rotate_left; (focus (go_simp; (try with_reducible rfl))); (try simp only [Act.put, List.setIfInBounds_toArray, List.set_cons_zero, List.set_cons_succ]))
    (refine OB.o_pure (v := ?_) (by rfl) (fun w' => ?_) ?_; rotate_left; (focus (go_simp; (try with_reducible rfl))); (try simp only [Act.put, List.setIfInBounds_toArray, List.set_cons_zero, List.set_cons_succ]))
    (refine OB.o_loads _ [.int .u32 (j1 : Int), .int .u32 (j2 : Int), .int .u8 (j3 : Int), .bool j4, .bool j5, .int .u64 (j6 : Int)] (by rfl) rfl rfl (by dsimp only; first | assumption | omega) (cells_of KJ.out) (Nat.succ_pos _) (by kernel_rfl) (by kernel_rfl) ?_; simp only [Act.put, List.setIfInBounds_toArray, List.set_cons_zero, List.set_cons_succ])
    (refine OB.o_loads _ [.int .u8 2, .slice A n c] (by rfl) rfl rfl (by dsimp only; first | assumption | omega) (cells_of KO.out) (Nat.succ_pos _) (by kernel_rfl) (by kernel_rfl) ?_; simp only [Act.put, List.setIfInBounds_toArray, List.set_cons_zero, List.set_cons_succ])
    refine OB.o_sole (fun K hK => ?_)
    go_wp2_with fail
    refine (joinOpt_any j1 j2 j3 j6 j4 j5 wd HIS.out.htk HIS.out.hnc HIS.out.hid HIS.out.ht).mono ?_
    rintro e w29 ⟨⟨v, rfl, hN⟩, hb⟩
    obtain ⟨A1, n1, c1, rfl, _, _, hr1⟩ := hN.out
    have B2 := Lib.hid (B.out.trans (hb.mono B.out.size))
    have hs2 := hb.size
    rw [← HIS.out.hb] at hr1
    go_wp2_with fail
    refine hK _ _ (fun _ => OB.ExtB.at_ hb (fun k hk => Nat.lt_of_lt_of_le hk hDs)) ?_; clear hK K
    clear hb hN B
    refine OB.o_sole (fun K hK => ?_)
    go_wp2_with fail
    refine (sameo_any 2 A1 A n1 c1 n c lb w29 hr1.out (HR.out.into B2.out)).mono ?_
    rintro e w30 ⟨rfl, hb⟩
    have B := Lib.hid (B2.out.trans (hb.mono B2.out.size))
    have hs3 := Nat.le_trans hs2 hb.size
    go_wp2_with fail
    refine hK _ _ (fun _ => OB.ExtB.at_ hb (fun k hk => Nat.lt_of_lt_of_le hk (Nat.le_trans hDs hs2))) ?_; clear hK K
    clear hb hr1 B2
    (refine OB.o_pure (v := ?_) (by rfl) (fun w' => ?_) ?_; rotate_left; (focus (go_simp; (try with_reducible rfl))); (try simp only [Act.put, List.setIfInBounds_toArray, List.set_cons_zero, List.set_cons_succ]))
    (refine OB.o_pure (v := ?_) (by rfl) (fun w' => ?_) ?_; rotate_left; (focus (go_simp; (try with_reducible rfl))); (try simp only [Act.put, List.setIfInBounds_toArray, List.set_cons_zero, List.set_cons_succ]))
    (refine OB.o_pure (v := ?_) (by rfl) (fun w' => ?_) ?_; rotate_left; (focus (go_simp; (try with_reducible rfl))); (try simp only [Act.put, List.setIfInBounds_toArray, List.set_cons_zero, List.set_cons_succ]))
    (refine OB.o_pure (v := ?_) (by rfl) (fun w' => ?_) ?_; rotate_left; (focus (go_simp; (try with_reducible rfl))); (try simp only [Act.put, List.setIfInBounds_toArray, List.set_cons_zero, List.set_cons_succ]))
    (refine OB.o_pure (v := ?_) (by rfl) (fun w' => ?_) ?_; rotate_left; (focus (go_simp; (try with_reducible rfl))); (try simp only [Act.put, List.setIfInBounds_toArray, List.set_cons_zero, List.set_cons_succ]))
    (refine OB.o_pure (v := ?_) (by rfl) (fun w' => ?_) ?_; rotate_left; (focus (go_simp; (try with_reducible rfl))); (try simp only [Act.put, List.setIfInBounds_toArray, List.set_cons_zero, List.set_cons_succ]))
    (refine OB.o_skip (by intro h; cases h) (by rfl) ?_; simp only [Act.put, List.setIfInBounds_toArray, List.set_cons_zero, List.set_cons_succ])
    (refine OB.o_skip (by intro h; cases h) (by rfl) ?_; simp only [Act.put, List.setIfInBounds_toArray, List.set_cons_zero, List.set_cons_succ])
    (refine OB.o_pass (by rfl) ?_; simp only [Act.put, List.setIfInBounds_toArray, List.set_cons_zero, List.set_cons_succ])
    (refine OB.o_pass (by rfl) ?_; simp only [Act.put, List.setIfInBounds_toArray, List.set_cons_zero, List.set_cons_succ])
    (refine OB.o_pure (v := ?_) (by rfl) (fun w' => ?_) ?_; rotate_left; (focus (go_simp; (try with_reducible rfl))); (try simp only [Act.put, List.setIfInBounds_toArray, List.set_cons_zero, List.set_cons_succ]))
    (refine OB.o_pure (v := ?_) (by rfl) (fun w' => ?_) ?_; rotate_left; (focus (go_simp; (try with_reducible rfl))); (try simp only [Act.put, List.setIfInBounds_toArray, List.set_cons_zero, List.set_cons_succ]))
    (refine OB.o_pure (v := ?_) (by rfl) (fun w' => ?_) ?_; rotate_left; (focus (go_simp; (try with_reducible rfl))); (try simp only [Act.put, List.setIfInBounds_toArray, List.set_cons_zero, List.set_cons_succ]))
    (refine OB.o_pure (v := ?_) (by rfl) (fun w' => ?_) ?_; rotate_left; (focus (go_simp; (try with_reducible rfl))); (try simp only [Act.put, List.setIfInBounds_toArray, List.set_cons_zero, List.set_cons_succ]))
    (refine OB.o_pure (v := ?_) (by rfl) (fun w' => ?_) ?_; rotate_left; (focus (go_simp; (try with_reducible rfl))); (try simp only [Act.put, List.setIfInBounds_toArray, List.set_cons_zero, List.set_cons_succ]))
    (refine OB.o_pure (v := ?_) (by rfl) (fun w' => ?_) ?_; rotate_left; (focus (go_simp; (try with_reducible rfl))); (try simp only [Act.put, List.setIfInBounds_toArray, List.set_cons_zero, List.set_cons_succ]))
    (refine OB.o_skip (by intro h; cases h) (by rfl) ?_; simp only [Act.put, List.setIfInBounds_toArray, List.set_cons_zero, List.set_cons_succ])
    (refine OB.o_skip (by intro h; cases h) (by rfl) ?_; simp only [Act.put, List.setIfInBounds_toArray, List.set_cons_zero, List.set_cons_succ])
    (refine OB.o_pass (by rfl) ?_; simp only [Act.put, List.setIfInBounds_toArray, List.set_cons_zero, List.set_cons_succ])
    (refine OB.o_pass (by rfl) ?_; simp only [Act.put, List.setIfInBounds_toArray, List.set_cons_zero, List.set_cons_succ])
    (refine OB.o_pure (v := ?_) (by rfl) (fun w' => ?_) ?_; rotate_left; (focus (go_simp; (try with_reducible rfl))); (try simp only [Act.put, List.setIfInBounds_toArray, List.set_cons_zero, List.set_cons_succ]))
    (refine OB.o_pure (v := ?_) (by rfl) (fun w' => ?_) ?_; rotate_left; (focus (go_simp; (try with_reducible rfl))); (try simp only [Act.put, List.setIfInBounds_toArray, List.set_cons_zero, List.set_cons_succ]))
    (refine OB.o_pure (v := ?_) (by rfl) (fun w' => ?_) ?_; rotate_left; (focus (go_simp; (try with_reducible rfl))); (try simp only [Act.put, List.setIfInBounds_toArray, List.set_cons_zero, List.set_cons_succ]))
    refine OB.o_sole (fun K hK => ?_)
    go_wp2_with fail
    refine (oalive_any w30).mono ?_
    rintro e w31 ⟨rfl, hb⟩
    have B9 := Lib.hid (B.out.trans (hb.mono B.out.size))
    go_wp2_with fail
    refine hK _ _ (fun _ => OB.ExtB.at_ hb (fun k hk => Nat.lt_of_lt_of_le hk (Nat.le_trans hDs hs3))) ?_; clear hK K
    (refine OB.o_pure (v := ?_) (by rfl) (fun w' => ?_) ?_; rotate_left; (focus (go_simp; (try with_reducible rfl))); (try simp only [Act.put, List.setIfInBounds_toArray, List.set_cons_zero, List.set_cons_succ]))
    (refine OB.o_pure (v := ?_) (by rfl) (fun w' => ?_) ?_; rotate_left; (focus (go_simp; (try with_reducible rfl))); (try simp only [Act.put, List.setIfInBounds_toArray, List.set_cons_zero, List.set_cons_succ]))
    refine OB.o_nil (hQ.out _ _ ?_); clear hQ QQ
    go_wp2_with fail
    go_ret
    exact ⟨rfl, B9.out⟩
  ·
    obtain rfl := hIs.hkd
    have HIS := Lib.hid hIs
    clear hIs
    refine OB.wp_ord [(0, .pure), (1, .pure), (2, .pure), (3, .read), (5, .read), (4, .sole), (6, .sole), (7, .pure), (8, .pure), (9, .pure), (10, .pure), (11, .pure), (12, .read), (14, .read), (13, .sole), (15, .sole), (16, .pure), (17, .pure), (18, .pure), (19, .pure), (20, .pure), (21, .pure), (22, .read), (24, .read), (23, .sole), (25, .sole), (26, .pure), (27, .pure), (28, .pure), (29, .pure), (30, .pure), (31, .pure), (32, .read), (34, .read), (33, .sole), (35, .sole), (36, .pure), (37, .pure), (38, .pure), (39, .sole), (40, .pure), (41, .pure)] ⟨fun k => k < w28.heap.size, []⟩ (by kernel_rfl) (by kernel_rfl) (fun QQ hQ wd hwd => ?_); (try simp only [List.map_cons, List.map_nil, List.getD_cons_zero, List.getD_cons_succ])
    have hD : Below w28.heap.size w28 wd := by rw [hwd.out]; exact (Below.refl _ _).drew
    replace B := Lib.hid (B.out.trans (hD.mono B.out.size))
    replace KO := Lib.hid (KO.out.below hD KO.out.lt)
    replace KD := Lib.hid (KD.out.below hD KD.out.lt)
    have hDs := hD.size
    obtain ⟨l0, l1, l2, l3, l4⟩ := HZ.out
    clear hwd hD
    (refine OB.o_pure (v := ?_) (by rfl) (fun w' => ?_) ?_; rotate_left; (focus (go_simp; (try with_reducible rfl))); (try simp only [Act.put, List.setIfInBounds_toArray, List.set_cons_zero, List.set_cons_succ]))
    (refine OB.o_pure (v := ?_) (by rfl) (fun w' => ?_) ?_; rotate_left; (focus (go_simp; (try with_reducible rfl))); (try simp only [Act.put, List.setIfInBounds_toArray, List.set_cons_zero, List.set_cons_succ]))
    (refine OB.o_pure (v := ?_) (by rfl) (fun w' => ?_) ?_; rotate_left; (focus (go_simp; (try with_reducible rfl))); (try simp only [Act.put, List.setIfInBounds_toArray, List.set_cons_zero, List.set_cons_succ]))
    (refine OB.o_skip (by intro h; cases h) (by rfl) ?_; simp only [Act.put, List.setIfInBounds_toArray, List.set_cons_zero, List.set_cons_succ])
    (refine OB.o_skip (by intro h; cases h) (by rfl) ?_; simp only [Act.put, List.setIfInBounds_toArray, List.set_cons_zero, List.set_cons_succ])
    (refine OB.o_pass (by rfl) ?_; simp only [Act.put, List.setIfInBounds_toArray, List.set_cons_zero, List.set_cons_succ])
    (refine OB.o_pass (by rfl) ?_; simp only [Act.put, List.setIfInBounds_toArray, List.set_cons_zero, List.set_cons_succ])
    (refine OB.o_pure (v := ?_) (by rfl) (fun w' => ?_) ?_; rotate_left; (focus (go_simp; (try with_reducible rfl))); (try simp only [Act.put, List.setIfInBounds_toArray, List.set_cons_zero, List.set_cons_succ]))
    (refine OB.o_pure (v := ?_) (by rfl) (fun w' => ?_) ?_; rotate_left; (focus (go_simp; (try with_reducible rfl))); (try simp only [Act.put, List.setIfInBounds_toArray, List.set_cons_zero, List.set_cons_succ]))
    (refine OB.o_pure (v := ?_) (by rfl) (fun w' => ?_) ?_; rotate_left; (focus (go_simp; (try with_reducible rfl))); (try simp only [Act.put, List.setIfInBounds_toArray, List.set_cons_zero, List.set_cons_succ]))
    (refine OB.o_pure (v := ?_) (by rfl) (fun w' => ?_) ?_; rotate_left; (focus (go_simp; (try with_reducible rfl))); (try simp only [Act.put, List.setIfInBounds_toArray, List.set_cons_zero, List.set_cons_succ]))
    (refine OB.o_pure (v := ?_) (by rfl) (fun w' => ?_) ?_; rotate_left; (focus (go_simp; (try with_reducible rfl))); (try simp only [Act.put, List.setIfInBounds_toArray, List.set_cons_zero, List.set_cons_succ]))
    (refine OB.o_skip (by intro h; cases h) (by rfl) ?_; simp only [Act.put, List.setIfInBounds_toArray, List.set_cons_zero, List.set_cons_succ])
    (refine OB.o_skip (by intro h; cases h) (by rfl) ?_; simp only [Act.put, List.setIfInBounds_toArray, List.set_cons_zero, List.set_cons_succ])
    (refine OB.o_pass (by rfl) ?_; simp only [Act.put, List.setIfInBounds_toArray, List.set_cons_zero, List.set_cons_succ])
    (refine OB.o_pass (by rfl) ?_; simp only [Act.put, List.setIfInBounds_toArray, List.set_cons_zero, List.set_cons_succ])
    (refine OB.o_pure (v := ?_) (by rfl) (fun w' => ?_) ?_; rotate_left; (focus (go_simp; (try with_reducible rfl))); (try simp only [Act.put, List.setIfInBounds_toArray, List.set_cons_zero, List.set_cons_succ]))
    (refine OB.o_pure (v := ?_) (by rfl) (fun w' => ?_) ?_; rotate_left; (focus (go_simp; (try with_reducible rfl))); (try simp only [Act.put, List.setIfInBounds_toArray, List.set_cons_zero, List.set_cons_succ]))
    (refine OB.o_pure (v := ?_) (by rfl) (fun w' => ?_) ?_; rotate_left; (focus (go_simp; (try with_reducible rfl))); (try simp only [Act.put, List.setIfInBounds_toArray, List.set_cons_zero, List.set_cons_succ]))
    (refine OB.o_pure (v := ?_) (by rfl) (fun w' => ?_) ?_; rotate_left; (focus (go_simp; (try with_reducible rfl))); (try simp only [Act.put, List.setIfInBounds_toArray, List.set_cons_zero, List.set_cons_succ]))
    (refine OB.o_pure (v := ?_) (by rfl) (fun w' => ?_) ?_; rotate_left; (focus (go_simp; (try with_reducible rfl))); (try simp only [Act.put, List.setIfInBounds_toArray, List.set_cons_zero, List.set_cons_succ]))
    (refine OB.o_pure (v := ?_) (by rfl) (fun w' => ?_) ?_; rotate_left; (focus (go_simp; (try with_reducible rfl))); (try simp only [Act.put, List.setIfInBounds_toArray, List.set_cons_zero, List.set_cons_succ]))
    (refine OB.o_loads _ [.bool d1, .bool d2, .int .u64 (d3 : Int), .int .u64 (d4 : Int), .int .u32 (d5 : Int), .int .u64 (d6 : Int)] (by rfl) rfl rfl (by dsimp only; first | assumption | omega) (cells_of KD.out) (Nat.succ_pos _) (by kernel_rfl) (by kernel_rfl) ?_; simp only [Act.put, List.setIfInBounds_toArray, List.set_cons_zero, List.set_cons_succ])
    (refine OB.o_loads _ [.int .u8 3, .slice A n c] (by rfl) rfl rfl (by dsimp only; first | assumption | omega) (cells_of KO.out) (Nat.succ_pos _) (by kernel_rfl) (by kernel_rfl) ?_; simp only [Act.put, List.setIfInBounds_toArray, List.set_cons_zero, List.set_cons_succ])
    refine OB.o_sole (fun K hK => ?_)
    go_wp2_with fail
    refine (dataOpt_any d1 d2 d3 d4 d5 d6 wd HIS.out.hsq HIS.out.hak HIS.out.hwn HIS.out.ht).mono ?_
    rintro e w29 ⟨⟨v, rfl, hN⟩, hb⟩
    obtain ⟨A1, n1, c1, rfl, _, _, hr1⟩ := hN.out
    have B2 := Lib.hid (B.out.trans (hb.mono B.out.size))
    have hs2 := hb.size
    rw [← HIS.out.hb] at hr1
    go_wp2_with fail
    refine hK _ _ (fun _ => OB.ExtB.at_ hb (fun k hk => Nat.lt_of_lt_of_le hk hDs)) ?_; clear hK K
    clear hb hN B
    refine OB.o_sole (fun K hK => ?_)
    go_wp2_with fail
    refine (sameo_any 3 A1 A n1 c1 n c lb w29 hr1.out (HR.out.into B2.out)).mono ?_
    rintro e w30 ⟨rfl, hb⟩
    have B := Lib.hid (B2.out.trans (hb.mono B2.out.size))
    have hs3 := Nat.le_trans hs2 hb.size
    go_wp2_with fail
    refine hK _ _ (fun _ => OB.ExtB.at_ hb (fun k hk => Nat.lt_of_lt_of_le hk (Nat.le_trans hDs hs2))) ?_; clear hK K
    clear hb hr1 B2
    (refine OB.o_pure (v := ?_) (by rfl) (fun w' => ?_) ?_; rotate_left; (focus (go_simp; (try with_reducible rfl))); (try simp only [Act.put, List.setIfInBounds_toArray, List.set_cons_zero, List.set_cons_succ]))
    (refine OB.o_pure (v := ?_) (by rfl) (fun w' => ?_) ?_; rotate_left; (focus (go_simp; (try with_reducible rfl))); (try simp only [Act.put, List.setIfInBounds_toArray, List.set_cons_zero, List.set_cons_succ]))
    (refine OB.o_pure (v := ?_) (by rfl) (fun w' => ?_) ?_; rotate_left; (focus (go_simp; (try with_reducible rfl))); (try simp only [Act.put, List.setIfInBounds_toArray, List.set_cons_zero, List.set_cons_succ]))
    (refine OB.o_pure (v := ?_) (by rfl) (fun w' => ?_) ?_; rotate_left; (focus (go_simp; (try with_reducible rfl))); (try simp only [Act.put, List.setIfInBounds_toArray, List.set_cons_zero, List.set_cons_succ]))
    (refine OB.o_pure (v := ?_) (by rfl) (fun w' => ?_) ?_; rotate_left; (focus (go_simp; (try with_reducible rfl))); (try simp only [Act.put, List.setIfInBounds_toArray, List.set_cons_zero, List.set_cons_succ]))
    (refine OB.o_pure (v := ?_) (by rfl) (fun w' => ?_) ?_; rotate_left; (focus (go_simp; (try with_reducible rfl))); (try simp only [Act.put, List.setIfInBounds_toArray, List.set_cons_zero, List.set_cons_succ]))
    (refine OB.o_skip (by intro h; cases h) (by rfl) ?_; simp only [Act.put, List.setIfInBounds_toArray, List.set_cons_zero, List.set_cons_succ])
    (refine OB.o_skip (by intro h; cases h) (by rfl) ?_; simp only [Act.put, List.setIfInBounds_toArray, List.set_cons_zero, List.set_cons_succ])
    (refine OB.o_pass (by rfl) ?_; simp only [Act.put, List.setIfInBounds_toArray, List.set_cons_zero, List.set_cons_succ])
    (refine OB.o_pass (by rfl) ?_; simp only [Act.put, List.setIfInBounds_toArray, List.set_cons_zero, List.set_cons_succ])
    (refine OB.o_pure (v := ?_) (by rfl) (fun w' => ?_) ?_; rotate_left; (focus (go_simp; (try with_reducible rfl))); (try simp only [Act.put, List.setIfInBounds_toArray, List.set_cons_zero, List.set_cons_succ]))
    (refine OB.o_pure (v := ?_) (by rfl) (fun w' => ?_) ?_; rotate_left; (focus (go_simp; (try with_reducible rfl))); (try simp only [Act.put, List.setIfInBounds_toArray, List.set_cons_zero, List.set_cons_succ]))
    (refine OB.o_pure (v := ?_) (by rfl) (fun w' => ?_) ?_; rotate_left; (focus (go_simp; (try with_reducible rfl))); (try simp only [Act.put, List.setIfInBounds_toArray, List.set_cons_zero, List.set_cons_succ]))
    refine OB.o_sole (fun K hK => ?_)
    go_wp2_with fail
    refine (oalive_any w30).mono ?_
    rintro e w31 ⟨rfl, hb⟩
    have B9 := Lib.hid (B.out.trans (hb.mono B.out.size))
    go_wp2_with fail
    refine hK _ _ (fun _ => OB.ExtB.at_ hb (fun k hk => Nat.lt_of_lt_of_le hk (Nat.le_trans hDs hs3))) ?_; clear hK K
    (refine OB.o_pure (v := ?_) (by rfl) (fun w' => ?_) ?_; rotate_left; (focus (go_simp; (try with_reducible rfl))); (try simp only [Act.put, List.setIfInBounds_toArray, List.set_cons_zero, List.set_cons_succ]))
    (refine OB.o_pure (v := ?_) (by rfl) (fun w' => ?_) ?_; rotate_left; (focus (go_simp; (try with_reducible rfl))); (try simp only [Act.put, List.setIfInBounds_toArray, List.set_cons_zero, List.set_cons_succ]))
    refine OB.o_nil (hQ.out _ _ ?_); clear hQ QQ
    go_wp2_with fail
    go_ret
    exact ⟨rfl, B9.out⟩
  ·
    have HIS := Lib.hid hIs
    clear hIs
    refine OB.wp_ord [(0, .pure), (1, .pure), (2, .pure), (3, .read), (5, .read), (4, .sole), (6, .sole), (7, .pure), (8, .pure), (9, .pure), (10, .pure), (11, .pure), (12, .read), (14, .read), (13, .sole), (15, .sole), (16, .pure), (17, .pure), (18, .pure), (19, .pure), (20, .pure), (21, .pure), (22, .read), (24, .read), (23, .sole), (25, .sole), (26, .pure), (27, .pure), (28, .pure), (29, .pure), (30, .pure), (31, .pure), (32, .read), (34, .read), (33, .sole), (35, .sole), (36, .pure), (37, .pure), (38, .pure), (39, .sole), (40, .pure), (41, .pure)] ⟨fun k => k < w28.heap.size, []⟩ (by kernel_rfl) (by kernel_rfl) (fun QQ hQ wd hwd => ?_); (try simp only [List.map_cons, List.map_nil, List.getD_cons_zero, List.getD_cons_succ])
    have hD : Below w28.heap.size w28 wd := by rw [hwd.out]; exact (Below.refl _ _).drew
    replace B := Lib.hid (B.out.trans (hD.mono B.out.size))
    replace KO := Lib.hid (KO.out.below hD KO.out.lt)
    replace KW := Lib.hid (KW.out.below hD KW.out.lt)
    have hDs := hD.size
    obtain ⟨l0, l1, l2, l3, l4⟩ := HZ.out
    clear hwd hD
    (refine OB.o_pure (v := ?_) (by rfl) (fun w' => ?_) ?_; rotate_left; (focus (go_simp; (try with_reducible rfl))); (try simp only [Act.put, List.setIfInBounds_toArray, List.set_cons_zero, List.set_cons_succ]))
    (refine OB.o_pure (v := ?_) (by rfl) (fun w' => ?_) ?_; rotate_left; (focus (go_simp; (try with_reducible rfl))); (try simp only [Act.put, List.setIfInBounds_toArray, List.set_cons_zero, List.set_cons_succ]))
    (refine OB.o_pure (v := ?_) (by rfl) (fun w' => ?_) ?_; rotate_left; (focus (go_simp; (try with_reducible rfl))); (try simp only [Act.put, List.setIfInBounds_toArray, List.set_cons_zero, List.set_cons_succ]))
    (refine OB.o_skip (by intro h; cases h) (by rfl) ?_; simp only [Act.put, List.setIfInBounds_toArray, List.set_cons_zero, List.set_cons_succ])
    (refine OB.o_skip (by intro h; cases h) (by rfl) ?_; simp only [Act.put, List.setIfInBounds_toArray, List.set_cons_zero, List.set_cons_succ])
    (refine OB.o_pass (by rfl) ?_; simp only [Act.put, List.setIfInBounds_toArray, List.set_cons_zero, List.set_cons_succ])
    (refine OB.o_pass (by rfl) ?_; simp only [Act.put, List.setIfInBounds_toArray, List.set_cons_zero, List.set_cons_succ])
    (refine OB.o_pure (v := ?_) (by rfl) (fun w' => ?_) ?_; rotate_left; (focus (go_simp; (try with_reducible rfl))); (try simp only [Act.put, List.setIfInBounds_toArray, List.set_cons_zero, List.set_cons_succ]))
    (refine OB.o_pure (v := ?_) (by rfl) (fun w' => ?_) ?_; rotate_left; (focus (go_simp; (try with_reducible rfl))); (try simp only [Act.put, List.setIfInBounds_toArray, List.set_cons_zero, List.set_cons_succ]))
    (refine OB.o_pure (v := ?_) (by rfl) (fun w' => ?_) ?_; rotate_left; (focus (go_simp; (try with_reducible rfl))); (try simp only [Act.put, List.setIfInBounds_toArray, List.set_cons_zero, List.set_cons_succ]))
    (refine OB.o_pure (v := ?_) (by rfl) (fun w' => ?_) ?_; rotate_left; (focus (go_simp; (try with_reducible rfl))); (try simp only [Act.put, List.setIfInBounds_toArray, List.set_cons_zero, List.set_cons_succ]))
    (refine OB.o_pure (v := ?_) (by rfl) (fun w' => ?_) ?_; rotate_left; (focus (go_simp; (try with_reducible rfl))); (try simp only [Act.put, List.setIfInBounds_toArray, List.set_cons_zero, List.set_cons_succ]))
    (refine OB.o_skip (by intro h; cases h) (by rfl) ?_; simp only [Act.put, List.setIfInBounds_toArray, List.set_cons_zero, List.set_cons_succ])
    (refine OB.o_skip (by intro h; cases h) (by rfl) ?_; simp only [Act.put, List.setIfInBounds_toArray, List.set_cons_zero, List.set_cons_succ])
    (refine OB.o_pass (by rfl) ?_; simp only [Act.put, List.setIfInBounds_toArray, List.set_cons_zero, List.set_cons_succ])
    (refine OB.o_pass (by rfl) ?_; simp only [Act.put, List.setIfInBounds_toArray, List.set_cons_zero, List.set_cons_succ])
    (refine OB.o_pure (v := ?_) (by rfl) (fun w' => ?_) ?_; rotate_left; (focus (go_simp; (try with_reducible rfl))); (try simp only [Act.put, List.setIfInBounds_toArray, List.set_cons_zero, List.set_cons_succ]))
    (refine OB.o_pure (v := ?_) (by rfl) (fun w' => ?_) ?_; rotate_left; (focus (go_simp; (try with_reducible rfl))); (try simp only [Act.put, List.setIfInBounds_toArray, List.set_cons_zero, List.set_cons_succ]))
    (refine OB.o_pure (v := ?_) (by rfl) (fun w' => ?_) ?_; rotate_left; (focus (go_simp; (try with_reducible rfl))); (try simp only [Act.put, List.setIfInBounds_toArray, List.set_cons_zero, List.set_cons_succ]))
    (refine OB.o_pure (v := ?_) (by rfl) (fun w' => ?_) ?_; rotate_left; (focus (go_simp; (try with_reducible rfl))); (try simp only [Act.put, List.setIfInBounds_toArray, List.set_cons_zero, List.set_cons_succ]))
    (refine OB.o_pure (v := ?_) (by rfl) (fun w' => ?_) ?_; rotate_left; (focus (go_simp; (try with_reducible rfl))); (try simp only [Act.put, List.setIfInBounds_toArray, List.set_cons_zero, List.set_cons_succ]))
    (refine OB.o_pure (v := ?_) (by rfl) (fun w' => ?_) ?_; rotate_left; (focus (go_simp; (try with_reducible rfl))); (try simp only [Act.put, List.setIfInBounds_toArray, List.set_cons_zero, List.set_cons_succ]))
    (refine OB.o_skip (by intro h; cases h) (by rfl) ?_; simp only [Act.put, List.setIfInBounds_toArray, List.set_cons_zero, List.set_cons_succ])
    (refine OB.o_skip (by intro h; cases h) (by rfl) ?_; simp only [Act.put, List.setIfInBounds_toArray, List.set_cons_zero, List.set_cons_succ])
    (refine OB.o_pass (by rfl) ?_; simp only [Act.put, List.setIfInBounds_toArray, List.set_cons_zero, List.set_cons_succ])
    (refine OB.o_pass (by rfl) ?_; simp only [Act.put, List.setIfInBounds_toArray, List.set_cons_zero, List.set_cons_succ])
    (refine OB.o_pure (v := ?_) (by rfl) (fun w' => ?_) ?_; rotate_left; (focus (go_simp; (try with_reducible rfl))); (try simp only [Act.put, List.setIfInBounds_toArray, List.set_cons_zero, List.set_cons_succ]))
    (refine OB.o_pure (v := ?_) (by rfl) (fun w' => ?_) ?_; rotate_left; (focus (go_simp; (try with_reducible rfl))); (try simp only [Act.put, List.setIfInBounds_toArray, List.set_cons_zero, List.set_cons_succ]))
    (refine OB.o_pure (v := ?_) (by rfl) (fun w' => ?_) ?_; rotate_left; (focus (go_simp; (try with_reducible rfl))); (try simp only [Act.put, List.setIfInBounds_toArray, List.set_cons_zero, List.set_cons_succ]))
    (refine OB.o_pure (v := ?_) (by rfl) (fun w' => ?_) ?_; rotate_left; (focus (go_simp; (try with_reducible rfl))); (try simp only [Act.put, List.setIfInBounds_toArray, List.set_cons_zero, List.set_cons_succ]))
    (refine OB.o_pure (v := ?_) (by rfl) (fun w' => ?_) ?_; rotate_left; (focus (go_simp; (try with_reducible rfl))); (try simp only [Act.put, List.setIfInBounds_toArray, List.set_cons_zero, List.set_cons_succ]))
    (refine OB.o_pure (v := ?_) (by rfl) (fun w' => ?_) ?_; rotate_left; (focus (go_simp; (try with_reducible rfl))); (try simp only [Act.put, List.setIfInBounds_toArray, List.set_cons_zero, List.set_cons_succ]))
    (refine OB.o_loads _ [.int .u8 (m0 : Int), .int .u32 (m1 : Int), .int .u8 (m2 : Int), .int .u8 (m3 : Int), .bool m4, .int .u64 (m5 : Int)] (by rfl) rfl rfl (by dsimp only; first | assumption | omega) (cells_of KW.out) (Nat.succ_pos _) (by kernel_rfl) (by kernel_rfl) ?_; simp only [Act.put, List.setIfInBounds_toArray, List.set_cons_zero, List.set_cons_succ])
    (refine OB.o_loads _ [.int .u8 (m0 : Int), .slice A n c] (by rfl) rfl rfl (by dsimp only; first | assumption | omega) (cells_of KO.out) (Nat.succ_pos _) (by kernel_rfl) (by kernel_rfl) ?_; simp only [Act.put, List.setIfInBounds_toArray, List.set_cons_zero, List.set_cons_succ])
    refine OB.o_sole (fun K hK => ?_)
    go_wp2_with fail
    refine (wordOpt_any m0 m1 m2 m3 m5 m4 wd HIS.out.hnm HIS.out.hid HIS.out.hpa HIS.out.ht).mono ?_
    rintro e w29 ⟨⟨v, rfl, hN⟩, hb⟩
    obtain ⟨A1, n1, c1, rfl, _, _, hr1⟩ := hN.out
    have B2 := Lib.hid (B.out.trans (hb.mono B.out.size))
    have hs2 := hb.size
    rw [← HIS.out.hb] at hr1
    go_wp2_with fail
    refine hK _ _ (fun _ => OB.ExtB.at_ hb (fun k hk => Nat.lt_of_lt_of_le hk hDs)) ?_; clear hK K
    clear hb hN B
    refine OB.o_sole (fun K hK => ?_)
    go_wp2_with fail
    refine (sameo_any m0 A1 A n1 c1 n c lb w29 hr1.out (HR.out.into B2.out)).mono ?_
    rintro e w30 ⟨rfl, hb⟩
    have B := Lib.hid (B2.out.trans (hb.mono B2.out.size))
    have hs3 := Nat.le_trans hs2 hb.size
    go_wp2_with fail
    refine hK _ _ (fun _ => OB.ExtB.at_ hb (fun k hk => Nat.lt_of_lt_of_le hk (Nat.le_trans hDs hs2))) ?_; clear hK K
    clear hb hr1 B2
    (refine OB.o_pure (v := ?_) (by rfl) (fun w' => ?_) ?_; rotate_left; (focus (go_simp; (try with_reducible rfl))); (try simp only [Act.put, List.setIfInBounds_toArray, List.set_cons_zero, List.set_cons_succ]))
    (refine OB.o_pure (v := ?_) (by rfl) (fun w' => ?_) ?_; rotate_left; (focus (go_simp; (try with_reducible rfl))); (try simp only [Act.put, List.setIfInBounds_toArray, List.set_cons_zero, List.set_cons_succ]))
    (refine OB.o_pure (v := ?_) (by rfl) (fun w' => ?_) ?_; rotate_left; (focus (go_simp; (try with_reducible rfl))); (try simp only [Act.put, List.setIfInBounds_toArray, List.set_cons_zero, List.set_cons_succ]))
    refine OB.o_sole (fun K hK => ?_)
    go_wp2_with fail
    refine (oalive_any w30).mono ?_
    rintro e w31 ⟨rfl, hb⟩
    have B9 := Lib.hid (B.out.trans (hb.mono B.out.size))
    go_wp2_with fail
    refine hK _ _ (fun _ => OB.ExtB.at_ hb (fun k hk => Nat.lt_of_lt_of_le hk (Nat.le_trans hDs hs3))) ?_; clear hK K
    (refine OB.o_pure (v := ?_) (by rfl) (fun w' => ?_) ?_; rotate_left; (focus (go_simp; (try with_reducible rfl))); (try simp only [Act.put, List.setIfInBounds_toArray, List.set_cons_zero, List.set_cons_succ]))
    (refine OB.o_pure (v := ?_) (by rfl) (fun w' => ?_) ?_; rotate_left; (focus (go_simp; (try with_reducible rfl))); (try simp only [Act.put, List.setIfInBounds_toArray, List.set_cons_zero, List.set_cons_succ]))
    refine OB.o_nil (hQ.out _ _ ?_); clear hQ QQ
    go_wp2_with fail
    go_ret
    exact ⟨rfl, B9.out⟩
  ·
    refine OB.wp_ord [(0, .pure), (1, .pure), (2, .pure), (3, .read), (5, .read), (4, .sole), (6, .sole), (7, .pure), (8, .pure), (9, .pure), (10, .pure), (11, .pure), (12, .read), (14, .read), (13, .sole), (15, .sole), (16, .pure), (17, .pure), (18, .pure), (19, .pure), (20, .pure), (21, .pure), (22, .read), (24, .read), (23, .sole), (25, .sole), (26, .pure), (27, .pure), (28, .pure), (29, .pure), (30, .pure), (31, .pure), (32, .read), (34, .read), (33, .sole), (35, .sole), (36, .pure), (37, .pure), (38, .pure), (39, .sole), (40, .pure), (41, .pure)] ⟨fun k => k < w28.heap.size, []⟩ (by kernel_rfl) (by kernel_rfl) (fun QQ hQ wd hwd => ?_); (try simp only [List.map_cons, List.map_nil, List.getD_cons_zero, List.getD_cons_succ])
    have hD : Below w28.heap.size w28 wd := by rw [hwd.out]; exact (Below.refl _ _).drew
    replace B := Lib.hid (B.out.trans (hD.mono B.out.size))
    replace KO := Lib.hid (KO.out.below hD KO.out.lt)
    have hDs := hD.size
    obtain ⟨l0, l1, l2, l3, l4⟩ := HZ.out
    clear hwd hD
    (refine OB.o_pure (v := ?_) (by rfl) (fun w' => ?_) ?_; rotate_left; (focus (go_simp; (try with_reducible rfl))); (try simp only [Act.put, List.setIfInBounds_toArray, List.set_cons_zero, List.set_cons_succ]))
    (refine OB.o_pure (v := ?_) (by rfl) (fun w' => ?_) ?_; rotate_left; (focus (go_simp; (try with_reducible rfl))); (try simp only [Act.put, List.setIfInBounds_toArray, List.set_cons_zero, List.set_cons_succ]))
    (refine OB.o_pure (v := ?_) (by rfl) (fun w' => ?_) ?_; rotate_left; (focus (go_simp; (try with_reducible rfl))); (try simp only [Act.put, List.setIfInBounds_toArray, List.set_cons_zero, List.set_cons_succ]))
    (refine OB.o_skip (by intro h; cases h) (by rfl) ?_; simp only [Act.put, List.setIfInBounds_toArray, List.set_cons_zero, List.set_cons_succ])
    (refine OB.o_skip (by intro h; cases h) (by rfl) ?_; simp only [Act.put, List.setIfInBounds_toArray, List.set_cons_zero, List.set_cons_succ])
    (refine OB.o_pass (by rfl) ?_; simp only [Act.put, List.setIfInBounds_toArray, List.set_cons_zero, List.set_cons_succ])
    (refine OB.o_pass (by rfl) ?_; simp only [Act.put, List.setIfInBounds_toArray, List.set_cons_zero, List.set_cons_succ])
    (refine OB.o_pure (v := ?_) (by rfl) (fun w' => ?_) ?_; rotate_left; (focus (go_simp; (try with_reducible rfl))); (try simp only [Act.put, List.setIfInBounds_toArray, List.set_cons_zero, List.set_cons_succ]))
    (refine OB.o_pure (v := ?_) (by rfl) (fun w' => ?_) ?_; rotate_left; (focus (go_simp; (try with_reducible rfl))); (try simp only [Act.put, List.setIfInBounds_toArray, List.set_cons_zero, List.set_cons_succ]))
    (refine OB.o_pure (v := ?_) (by rfl) (fun w' => ?_) ?_; rotate_left; (focus (go_simp; (try with_reducible rfl))); (try simp only [Act.put, List.setIfInBounds_toArray, List.set_cons_zero, List.set_cons_succ]))
    (refine OB.o_pure (v := ?_) (by rfl) (fun w' => ?_) ?_; rotate_left; (focus (go_simp; (try with_reducible rfl))); (try simp only [Act.put, List.setIfInBounds_toArray, List.set_cons_zero, List.set_cons_succ]))
    (refine OB.o_pure (v := ?_) (by rfl) (fun w' => ?_) ?_; rotate_left; (focus (go_simp; (try with_reducible rfl))); (try simp only [Act.put, List.setIfInBounds_toArray, List.set_cons_zero, List.set_cons_succ]))
    (refine OB.o_skip (by intro h; cases h) (by rfl) ?_; simp only [Act.put, List.setIfInBounds_toArray, List.set_cons_zero, List.set_cons_succ])
    (refine OB.o_skip (by intro h; cases h) (by rfl) ?_; simp only [Act.put, List.setIfInBounds_toArray, List.set_cons_zero, List.set_cons_succ])
    (refine OB.o_pass (by rfl) ?_; simp only [Act.put, List.setIfInBounds_toArray, List.set_cons_zero, List.set_cons_succ])
    (refine OB.o_pass (by rfl) ?_; simp only [Act.put, List.setIfInBounds_toArray, List.set_cons_zero, List.set_cons_succ])
    (refine OB.o_pure (v := ?_) (by rfl) (fun w' => ?_) ?_; rotate_left; (focus (go_simp; (try with_reducible rfl))); (try simp only [Act.put, List.setIfInBounds_toArray, List.set_cons_zero, List.set_cons_succ]))
    (refine OB.o_pure (v := ?_) (by rfl) (fun w' => ?_) ?_; rotate_left; (focus (go_simp; (try with_reducible rfl))); (try simp only [Act.put, List.setIfInBounds_toArray, List.set_cons_zero, List.set_cons_succ]))
    (refine OB.o_pure (v := ?_) (by rfl) (fun w' => ?_) ?_; rotate_left; (focus (go_simp; (try with_reducible rfl))); (try simp only [Act.put, List.setIfInBounds_toArray, List.set_cons_zero, List.set_cons_succ]))
    (refine OB.o_pure (v := ?_) (by rfl) (fun w' => ?_) ?_; rotate_left; (focus (go_simp; (try with_reducible rfl))); (try simp only [Act.put, List.setIfInBounds_toArray, List.set_cons_zero, List.set_cons_succ]))
    (refine OB.o_pure (v := ?_) (by rfl) (fun w' => ?_) ?_; rotate_left; (focus (go_simp; (try with_reducible rfl))); (try simp only [Act.put, List.setIfInBounds_toArray, List.set_cons_zero, List.set_cons_succ]))
    (refine OB.o_pure (v := ?_) (by rfl) (fun w' => ?_) ?_; rotate_left; (focus (go_simp; (try with_reducible rfl))); (try simp only [Act.put, List.setIfInBounds_toArray, List.set_cons_zero, List.set_cons_succ]))
    (refine OB.o_skip (by intro h; cases h) (by rfl) ?_; simp only [Act.put, List.setIfInBounds_toArray, List.set_cons_zero, List.set_cons_succ])
    (refine OB.o_skip (by intro h; cases h) (by rfl) ?_; simp only [Act.put, List.setIfInBounds_toArray, List.set_cons_zero, List.set_cons_succ])
    (refine OB.o_pass (by rfl) ?_; simp only [Act.put, List.setIfInBounds_toArray, List.set_cons_zero, List.set_cons_succ])
    (refine OB.o_pass (by rfl) ?_; simp only [Act.put, List.setIfInBounds_toArray, List.set_cons_zero, List.set_cons_succ])
    (refine OB.o_pure (v := ?_) (by rfl) (fun w' => ?_) ?_; rotate_left; (focus (go_simp; (try with_reducible rfl))); (try simp only [Act.put, List.setIfInBounds_toArray, List.set_cons_zero, List.set_cons_succ]))
    (refine OB.o_pure (v := ?_) (by rfl) (fun w' => ?_) ?_; rotate_left; (focus (go_simp; (try with_reducible rfl))); (try simp only [Act.put, List.setIfInBounds_toArray, List.set_cons_zero, List.set_cons_succ]))
    (refine OB.o_pure (v := ?_) (by rfl) (fun w' => ?_) ?_; rotate_left; (focus (go_simp; (try with_reducible rfl))); (try simp only [Act.put, List.setIfInBounds_toArray, List.set_cons_zero, List.set_cons_succ]))
    (refine OB.o_pure (v := ?_) (by rfl) (fun w' => ?_) ?_; rotate_left; (focus (go_simp; (try with_reducible rfl))); (try simp only [Act.put, List.setIfInBounds_toArray, List.set_cons_zero, List.set_cons_succ]))
    (refine OB.o_pure (v := ?_) (by rfl) (fun w' => ?_) ?_; rotate_left; (focus (go_simp; (try with_reducible rfl))); (try simp only [Act.put, List.setIfInBounds_toArray, List.set_cons_zero, List.set_cons_succ]))
    (refine OB.o_pure (v := ?_) (by rfl) (fun w' => ?_) ?_; rotate_left; (focus (go_simp; (try with_reducible rfl))); (try simp only [Act.put, List.setIfInBounds_toArray, List.set_cons_zero, List.set_cons_succ]))
    (refine OB.o_skip (by intro h; cases h) (by rfl) ?_; simp only [Act.put, List.setIfInBounds_toArray, List.set_cons_zero, List.set_cons_succ])
    (refine OB.o_skip (by intro h; cases h) (by rfl) ?_; simp only [Act.put, List.setIfInBounds_toArray, List.set_cons_zero, List.set_cons_succ])
    (refine OB.o_pass (by rfl) ?_; simp only [Act.put, List.setIfInBounds_toArray, List.set_cons_zero, List.set_cons_succ])
    (refine OB.o_pass (by rfl) ?_; simp only [Act.put, List.setIfInBounds_toArray, List.set_cons_zero, List.set_cons_succ])
    (refine OB.o_pure (v := ?_) (by rfl) (fun w' => ?_) ?_; rotate_left; (focus (go_simp; (try with_reducible rfl))); (try simp only [Act.put, List.setIfInBounds_toArray, List.set_cons_zero, List.set_cons_succ]))
    (refine OB.o_pure (v := ?_) (by rfl) (fun w' => ?_) ?_; rotate_left; (focus (go_simp; (try with_reducible rfl))); (try simp only [Act.put, List.setIfInBounds_toArray, List.set_cons_zero, List.set_cons_succ]))
    (refine OB.o_pure (v := ?_) (by rfl) (fun w' => ?_) ?_; rotate_left; (focus (go_simp; (try with_reducible rfl))); (try simp only [Act.put, List.setIfInBounds_toArray, List.set_cons_zero, List.set_cons_succ]))
    refine OB.o_sole (fun K hK => ?_)
    go_wp2_with fail
    refine (oalive_any wd).mono ?_
    rintro e w29 ⟨rfl, hb⟩
    have B9 := Lib.hid (B.out.trans (hb.mono B.out.size))
    go_wp2_with fail
    refine hK _ _ (fun _ => OB.ExtB.at_ hb (fun k hk => Nat.lt_of_lt_of_le hk hDs)) ?_; clear hK K
    (refine OB.o_pure (v := ?_) (by rfl) (fun w' => ?_) ?_; rotate_left; (focus (go_simp; (try with_reducible rfl))); (try simp only [Act.put, List.setIfInBounds_toArray, List.set_cons_zero, List.set_cons_succ]))
    (refine OB.o_pure (v := ?_) (by rfl) (fun w' => ?_) ?_; rotate_left; (focus (go_simp; (try with_reducible rfl))); (try simp only [Act.put, List.setIfInBounds_toArray, List.set_cons_zero, List.set_cons_succ]))
    refine OB.o_nil (hQ.out _ _ ?_); clear hQ QQ
    go_wp2_with fail
    go_ret
    exact ⟨rfl, B9.out⟩
theorem optBack_any (q : OA) (p : Ob) (w : World) (hq : q.bd) (hp : p.1 < 256 ∧ Body.ok w p.2) : Calls Try.prog 5 #[.agg q.cs, .agg (oel p).toArray] w fun e w' => e = .returned (.bool true) ∧ Below w.heap.size w w' := optBack_walk q p.1 p.2.A p.2.n p.2.c p.2.l w hq hp.2.1 hp.2.2.1 hp.2.2.2.2
end Go.Proofs.Ytiblmlmkpilgmaa
