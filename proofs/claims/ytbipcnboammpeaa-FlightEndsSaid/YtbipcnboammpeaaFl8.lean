/- Package slices: IndexFunc at pieces; package flight: Resent. -/
import Derived.Test.YtbipcnboammpeaaFl7
namespace Go.Proofs.Ytbipcnboammpeaa
open Go.RowKit
set_option linter.unusedVariables false
set_option linter.unusedSimpArgs false
/-- Where the first one asked for stands; -1: there is none. -/
def IdxP (p : Chk → Bool) (l : List Chk) (i : Int) : Prop := (∃ (k : Nat) (c : Chk), i = (k : Nat) ∧ k < l.length ∧ l[k]? = some c ∧ p c = true ∧ ∀ d ∈ l.take k, p d = false) ∨ (i = -1 ∧ ∀ d ∈ l, p d = false)
set_option maxRecDepth 20000 in
set_option maxHeartbeats 4000000 in
theorem fl_index (A : Option Addr) (n c : Nat) (l : List Chk) (f : Nat) (lb : Array Value) (p : Chk → Bool) (w : World)
    (ef : ∀ args w, (callFunc f args).run Try.prog w = .ok (.enter f args) w)
    (hp : ∀ (w' : World) (c : Chk), Below w.heap.size w w' → c ∈ l → Calls Try.prog f (#[c.agg] ++ lb) w' fun e w'' => e = .returned (.bool (p c)) ∧ Below w'.heap.size w' w'')
    (hr : Rd w w.heap.size 9 A n (chs l)) (hl : n ≤ 64) :
    Calls Try.prog 42 #[.slice A n c, .func (.func f) #[] lb] w fun e w' => (∃ i, e = .returned (.int .i64 i) ∧ IdxP p l i) ∧ Below w.heap.size w w' := by
  have HR := Lib.hid hr
  have HP := Lib.hid hp
  have HN := Lib.hid hr.chkLen
  clear hr hp
  go_enter Try.func42, Try.ntmps42
  go_wp2_with fail
  go_loopw [8] (fun iv wr => ∃ (k : Nat) , k ≤ n ∧ iv = .int .i64 (k : Nat) ∧ Hid (Below w.heap.size w wr) ∧ Hid (∀ d ∈ l.take k, p d = false)) (fun iv _ => n - (intOf iv).toNat)
  case atStart => exact ⟨0, Nat.zero_le _, rfl, Lib.hid (Below.refl _ _), Lib.hid (by simp)⟩
  case round =>
    obtain ⟨k, hk, rfl, BB, HA⟩ := hrel
    by_cases hlt : k < n
    · have hlt' : (k : Int) < (n : Int) := by omega
      have hk0 : ¬ (k : Int) < 0 := by omega
      obtain ⟨rb, off, x, hA, hrb, HC, HX⟩ := HR.out.chk hlt
      subst hA
      have HPX := Lib.hid (HP.out wr x BB.out (List.mem_of_getElem? HX.out))
      obtain ⟨a0, a1, a2, a3, a4, a5, a6, a7, a8⟩ := ck9 (w := wr) (o := off + k * 9) (fun j v hj => (BB.out.cell (p := ⟨rb, off + k * 9 + j, none⟩) hrb).trans (HC.out j v hj))
      have hbz := BB.out.size
      cases hpx : p x
      · rw [hpx, chk_agg] at HPX
        have HA2 := Lib.hid (take_all HX.out hpx HA.out)
        clear hpx HP
        go_wp2_with fail
        refine HPX.out.mono ?_
        rintro e w3 ⟨rfl, hb3⟩
        have B3 := Lib.hid (BB.out.trans (hb3.mono BB.out.size))
        clear hb3 a0 a1 a2 a3 a4 a5 a6 a7 a8 HPX hbz
        go_wp2_with fail
        go_roundw
        case rel => exact ⟨k + 1, by omega, by go_num, B3, HA2⟩
        case measure => simp [intOf]; omega
      · rw [hpx, chk_agg] at HPX
        have HI : Hid (IdxP p l (k : Int)) := Lib.hid (.inl ⟨k, x, rfl, by rw [HN.out]; exact hlt, HX.out, hpx, HA.out⟩)
        clear hpx HP
        go_wp2_with fail
        refine HPX.out.mono ?_
        rintro e w3 ⟨rfl, hb3⟩
        have B3 := Lib.hid (BB.out.trans (hb3.mono BB.out.size))
        clear hb3 a0 a1 a2 a3 a4 a5 a6 a7 a8 HPX hbz
        go_wp2_with fail
        go_ret
        exact ⟨⟨_, rfl, HI.out⟩, B3.out⟩
    · obtain rfl : k = n := by omega
      have HI : Hid (IdxP p l (-1)) := Lib.hid (.inr ⟨rfl, by have := HA.out; rw [List.take_of_length_le (by rw [HN.out]; exact Nat.le_refl _)] at this; exact this⟩)
      clear hlt HP
      go_wp2_with fail
      go_ret
      exact ⟨⟨_, rfl, HI.out⟩, BB.out⟩
theorem set_same {α : Type} {l : List α} {k : Nat} {x : α} (h : l[k]? = some x) : l.set k x = l := by
  obtain ⟨hl, hx⟩ := List.getElem?_eq_some_iff.1 h
  rw [← hx, List.set_getElem_self]
theorem RowG.setK {w : World} {rb c k : Nat} {l : List Chk} {x y : Chk} (h : RowG w rb c 9 30 Chk.el (l.set k x)) (hk : k < l.length) {r : Nat} (hr : r < 9) {v : Value} (hy : y.el = x.el.set r v) : RowG (w.setCell ⟨rb, k * 9 + r, none⟩ v) rb c 9 30 Chk.el (l.set k y) := by
  have := h.set1 chk_len (show (l.set k x)[k]? = some x by simp [hk]) hr hy
  rwa [List.set_set] at this
set_option maxRecDepth 20000 in
set_option maxHeartbeats 4000000 in
theorem fl_resent (B g most : Nat) (l : List Chk) (fr : Nat) (fin : Bool) (flow en now : Int) (y : Chk) (hy : y.flow = flow ∧ y.en = en ∧ y.sent = now) (w : World) (h : FL w B g most l) (hl : l.length ≤ 64) (hok : ∀ c ∈ l, c.ok) :
    Calls Try.prog 29 #[.pointer (some ⟨g, 0, none⟩), .int .u64 (fr : Nat), .bool fin, .int .i64 flow, .int .u32 en, .int .i64 now] w fun e w' => e = .returned (.bool (reS fr fin y l).2) ∧ FL w' B g most (reS fr fin y l).1 ∧ Kp B g w w' := by
  have hmf : ∀ (fn : Fn) (first cap : Array Value) (w : World), (Instr.makeFunc fn first cap).run Try.prog w = .ok (.func fn first cap) w := fun _ _ _ _ => rfl
  have K1 := (Blk.new w 27 #[.int .u64 (fr : Nat)]).alloc (.cells #[.bool fin] 4)
  have K2 := Blk.new (w.alloc (.cells #[.int .u64 (fr : Nat)] 27)) 4 #[.bool fin]
  have hb1 := ((Below.refl w.heap.size w).alloc (Nat.le_refl _) (.cells #[.int .u64 (fr : Nat)] 27)).alloc (by simp) (.cells #[.bool fin] 4)
  have hz : (w.alloc (.cells #[.int .u64 (fr : Nat)] 27)).heap.size = w.heap.size + 1 := by simp
  rw [hz] at K2
  have HB := Lib.hid (And.intro h.hB h.hw)
  have H1 := h.into hb1
  obtain ⟨A, n, c, hn, hnc, hcm, HK, HO, HR⟩ := H1.open_
  have IX := Lib.hid (fl_index A n c l 43 #[.pointer (some ⟨w.heap.size, 0, none⟩), .pointer (some ⟨w.heap.size + 1, 0, none⟩)] (isThat fr fin) _ (enters_of Try.func43 (by kernel_rfl) rfl) (fun w' c hb _ => p_that c fr fin w.heap.size (w.heap.size + 1) w' (hb.block _ K1.lt |>.trans K1) (hb.block _ K2.lt |>.trans K2)) HR.out (by omega))
  have HB1 := Lib.hid hb1
  have HN := Lib.hid hn
  have HOK := Lib.hid hok
  have HY := Lib.hid hy
  have HCM := Lib.hid hcm
  have hn64 : n ≤ 64 := by omega
  have g1 : ((w.alloc (.cells #[.int .u64 (fr : Nat)] 27)).alloc (.cells #[.bool fin] 4)).cell? ⟨g, 1, none⟩ = some (.slice A n c) := by rw [HK.out.cell]; rfl
  clear h hl K1 K2 hb1 hz hok hn H1 hcm hy HR
  go_enter Try.func29, Try.ntmps29
  go_wp2_with fail
  generalize (w.alloc (.cells #[.int .u64 (fr : Nat)] 27)).alloc (.cells #[.bool fin] 4) = w1 at *
  refine IX.out.mono ?_
  rintro e w2 ⟨⟨i, rfl, hi⟩, hb2⟩
  have K2 := Lib.hid (Blk.below HK.out hb2 HK.out.lt)
  have O2 := Lib.hid (own_below HO.out hb2 fun k hk => (HO.out.lt k hk).2)
  have HB2 := Lib.hid (HB1.out.trans (hb2.mono HB1.out.size))
  clear hb2 HK HO IX g1
  have g1 : w2.cell? ⟨g, 1, none⟩ = some (.slice A n c) := by rw [K2.out.cell]; rfl
  rcases hi with ⟨k, x, hik, hkl, hx, hpx, ha⟩ | ⟨hi, ha⟩
  · have HRS := Lib.hid (reS_hit (x := y) hx hpx ha)
    have HX := Lib.hid hx
    have hxk := HOK.out x (List.mem_of_getElem? hx)
    have hxt := hxk.tries
    have hkn : k < n := by rw [← HN.out]; exact hkl
    have HKL := Lib.hid hkl
    clear hx hpx ha hxk hkl
    subst hik
    have hk0 : ¬ (k : Int) < 0 := by omega
    have hkn' : (k : Int) < (n : Int) := by omega
    obtain ⟨tr, htr⟩ : ∃ tr : Int, tr = min x.tries 4095 + 1 := ⟨_, rfl⟩
    obtain ⟨m, hm⟩ : ∃ m : Int, m = min x.tries 4095 := ⟨_, rfl⟩
    have hm1 : min x.tries 4095 = m := hm.symm
    have hm2 : (if x.tries < 4095 then x.tries else 4095) = m := by split <;> omega
    have hm3 : (if 4095 < x.tries then 4095 else x.tries) = m := by split <;> omega
    have hm4 : m + 1 = tr := by omega
    have hm5 : IntKind.i64.wrap tr = tr := by rw [IntKind.wrap_i64]; omega
    have HTR := Lib.hid htr
    obtain ⟨rb, c2, hv, hBr, _, _, hob, hrow⟩ := RowG.of_own (f := Chk.el) O2.out HN.out.symm (by omega)
    injection hv with hv1 hv2 hv3
    subst hv1
    subst hv3
    have HRW := Lib.hid hrow
    have HBR := Lib.hid hBr
    obtain ⟨a0, a1, a2, a3, a4, a5, a6, a7, a8⟩ := ck9 (RowG.loads chk_len hrow HX.out)
    have f3 := hrow.frozen (k * 9 + 3)
    have f4 := hrow.frozen (k * 9 + 4)
    have f5 := hrow.frozen (k * 9 + 5)
    clear hm htr hrow hBr hob hv2
    go_upto_region 5 with fail
    go_upto_region 6 with fail
    have hso := ((Solo.refl (g := rb) (w := w2)).setCell (k * 9 + 3) (.int .i64 flow)).setCell (k * 9 + 4) (.int .u32 en) |>.setCell (k * 9 + 5) (.int .i64 now)
    have R3 : Hid (RowG (((w2.setCell ⟨rb, k * 9 + 3, none⟩ (.int .i64 flow)).setCell ⟨rb, k * 9 + 4, none⟩ (.int .u32 en)).setCell ⟨rb, k * 9 + 5, none⟩ (.int .i64 now)) rb c 9 30 Chk.el (l.set k { x with flow := flow, en := en, sent := now })) := Lib.hid ((((by rw [set_same HX.out]; exact HRW.out : RowG w2 rb c 9 30 Chk.el (l.set k x)).setK HKL.out (y := { x with flow := flow }) (by omega) rfl).setK HKL.out (y := { x with flow := flow, en := en }) (by omega) rfl).setK HKL.out (y := { x with flow := flow, en := en, sent := now }) (by omega) rfl)
    clear a0 a1 a2 a3 a4 a5 a6 a7 a8 f3 f4 f5
    generalize (((w2.setCell ⟨rb, k * 9 + 3, none⟩ (.int .i64 flow)).setCell ⟨rb, k * 9 + 4, none⟩ (.int .u32 en)).setCell ⟨rb, k * 9 + 5, none⟩ (.int .i64 now)) = w3 at hso R3 ⊢
    have HSO := Lib.hid hso
    have HX3 := Lib.hid (show (l.set k { x with flow := flow, en := en, sent := now })[k]? = some { x with flow := flow, en := en, sent := now } by simp [HKL.out])
    obtain ⟨a0, a1, a2, a3, a4, a5, a6, a7, a8⟩ := ck9 (RowG.loads chk_len R3.out HX3.out)
    have f6 := R3.out.frozen (k * 9 + 6)
    have f7 := R3.out.frozen (k * 9 + 7)
    have f8 := R3.out.frozen (k * 9 + 8)
    clear hso a0 a1 a2 a3 a4 a5 HX3
    go_wp2_with fail
    go_ret
    have hsp := ((HSO.out.setCell (k * 9 + 6) (.int .i64 tr)).setCell (k * 9 + 7) (.bool false)).setCell (k * 9 + 8) (.bool false)
    have R6 := ((R3.out.setK HKL.out (y := { x with flow := flow, en := en, sent := now, tries := tr }) (r := 6) (by omega) (v := .int .i64 tr) rfl).setK HKL.out (y := { x with flow := flow, en := en, sent := now, tries := tr, came := false }) (r := 7) (by omega) (v := .bool false) rfl).setK HKL.out (y := again1 y x) (r := 8) (by omega) (v := .bool false) (by rw [HTR.out]; obtain ⟨y1, y2, y3⟩ := HY.out; unfold again1; rw [y1, y2, y3]; rfl)
    have hrg : rb ≠ g := by
      intro e
      obtain ⟨cs, hcs⟩ := HRW.out.blk
      have h2 := K2.out
      unfold Blk at h2 hcs
      rw [e, h2] at hcs
      injection hcs with hcs
      injection hcs with _ hcs
      exact absurd hcs (by decide)
    have O6 := R6.own HBR.out HCM.out
    have K6 := hsp.blk K2.out (fun e => hrg e.symm)
    have KP : Kp B g w _ := (Kp.of HB2.out).trans (by obtain ⟨cs, hcs⟩ := HRW.out.blk; exact Kp.row (g := g) hcs HBR.out hsp)
    rw [List.length_set, HN.out] at O6
    rw [HRS.out]
    exact ⟨rfl, FL.shut HB.out.1 (Nat.le_trans HB.out.2 KP.size) (by rw [List.length_set]; exact HN.out) K6 O6, KP⟩
  · subst hi
    have HRS := Lib.hid (reS_miss (x := y) ha)
    clear ha
    go_wp2_with fail
    go_ret
    rw [HRS.out]
    exact ⟨rfl, FL.shut HB.out.1 (Nat.le_trans HB.out.2 HB2.out.size) HN.out K2.out O2.out, Kp.of HB2.out⟩
end Go.Proofs.Ytbipcnboammpeaa
