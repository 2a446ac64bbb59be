/- The document of layer 20: New, at, Add, Gone, Paths. -/
import Derived.Test.YtdcpmfodkggpeaaAd2
import Derived.Test.YtdcpmfodkggpeaaBkt2
import Derived.Test.YtdcpmfodkggpeaaApp0
namespace Go.Proofs.Ytdcpmfodkggpeaa
open Go.RowKit
set_option linter.unusedVariables false
set_option linter.unusedSimpArgs false
/-- The slice's block is a row of the document's offers. -/
def TyR (w : World) (A : Option Addr) (n : Nat) : Prop := ∀ a, A = some a → 0 < n → ∃ cs, Blk w a.block 45 cs
/-- The document's offers, as they are read. -/
structure RX (w : World) (A : Option Addr) (n c : Nat) (l : List (Int × Int)) : Prop where
  rd : Rd w w.heap.size 2 A n (pz l)
  nc : n ≤ c
  ty : TyR w A n
theorem Rd.same2 {w w' : World} {B size n : Nat} {A : Option Addr} {xs : List Value} (h : Rd w B size A n xs) (hs : ∀ a, A = some a → 0 < n → w'.heap[a.block]? = w.heap[a.block]?) : Rd w' B size A n xs := by
  refine ⟨h.1, fun hn => ?_⟩
  obtain ⟨b, off, e, hb, hc⟩ := h.2 hn
  exact ⟨b, off, e, hb, fun j hj => (World.cell?_of_block (a := ⟨b, off + j, none⟩) (show w'.heap[b]? = w.heap[b]? from hs _ e hn)).trans (hc j hj)⟩
theorem RX.len {w : World} {A : Option Addr} {n c : Nat} {l : List (Int × Int)} (h : RX w A n c l) : l.length = n := h.rd.pzLen
theorem RX.nil (w : World) : RX w none 0 0 [] := ⟨Rd.nil _ _ _ _, Nat.le_refl _, fun a ha => by cases ha⟩
theorem RX.same {w w' : World} {A : Option Addr} {n c : Nat} {l : List (Int × Int)} (h : RX w A n c l) (hz : w.heap.size ≤ w'.heap.size) (hs : ∀ k cs, Blk w k 45 cs → w'.heap[k]? = w.heap[k]?) : RX w' A n c l := by
  have hk : ∀ a, A = some a → 0 < n → w'.heap[a.block]? = w.heap[a.block]? := fun a ha hn => by obtain ⟨cs, hb⟩ := h.ty a ha hn; exact hs _ _ hb
  exact ⟨(h.rd.same2 hk).mono hz, h.nc, fun a ha hn => by obtain ⟨cs, hb⟩ := h.ty a ha hn; exact ⟨cs, (hk a ha hn).trans hb⟩⟩
theorem RX.into {w w' : World} {A : Option Addr} {n c : Nat} {l : List (Int × Int)} (h : RX w A n c l) (hb : Below w.heap.size w w') : RX w' A n c l := h.same hb.size fun k cs hk => hb.block k hk.lt
theorem RX.solo {w w' : World} {A : Option Addr} {n c g : Nat} {l : List (Int × Int)} {t : TypeId} {cs : Array Value} (h : RX w A n c l) (hg : Blk w g t cs) (ht : 45 ≠ t) (hs : Solo g w w') : RX w' A n c l := h.same (Nat.le_of_eq hs.2.1.symm) fun k ds hk => hs.2.2 k (blk_nt hk hg ht)
theorem RX.kt {w w' : World} {A : Option Addr} {n c B g b most paths left : Nat} {v v' : Value} {l m : List (Int × Int)} (h : RX w A n c l) (hT : TB w B g b v most paths left m) (k : KT g b v v' w w') : RX w' A n c l :=
  h.same k.size fun q cs hq => k.same q hq.lt (blk_nt hq hT.blk (by decide)) (blk_nt hq hT.bkt (by decide)) (own_nt hT.row hq (by decide))
theorem RX.own {w : World} {B n c : Nat} {A : Option Addr} {l : List (Int × Int)} (h : Pzs w 45 B (.slice A n c) l) : RX w A n c l := by
  obtain ⟨A2, n2, c2, hv, h1, _, _, h3⟩ := h.out
  injection hv with e1 e2 e3
  subst e1 e2 e3
  refine ⟨h3.out, h1, fun a ha hn => ?_⟩
  subst ha
  rcases (show World.ownsRow w B 45 2 (.slice (some a) n c) l.length (pz l) from h).2 with ⟨hv, _⟩ | ⟨g, cap, cur, hv, _, hh, _⟩
  · cases hv
  · injection hv with e1
    injection e1 with e1
    subst e1
    exact ⟨cur, hh⟩
theorem raEl : El Try.prog 29 45 (.agg #[.int .i64 0, .int .i64 0]) 2 16 := ⟨Try.underlying29, by kernel_rfl, rfl, by omega, by omega⟩
theorem ra_eq (x y z u : Int) (w : World) : (binOp .eql 45 (.agg #[.int .i64 x, .int .i64 y]) (.agg #[.int .i64 z, .int .i64 u])).run Try.prog w = .ok (.bool (decide ((x, y) = (z, u)))) w := by
  have h : (Op.equalIn 10000 45 (.agg #[.int .i64 x, .int .i64 y]) (.agg #[.int .i64 z, .int .i64 u])).run Try.prog w = .ok (decide ((x, y) = (z, u))) w := by
    rw [show (10000 : Nat) = 9999 + 1 from rfl, run_equalIn_agg w 9999 45 _ _ (by kernel_rfl) (by kernel_rfl)]
    by_cases h1 : x = z
    · by_cases h2 : y = u
      · subst h1 h2; simp [go_sem]
      · subst h1; simp [go_sem, h2]
    · simp [go_sem, h1]
  rw [run_eql_struct, h]
  rfl
set_option maxRecDepth 20000 in
set_option maxHeartbeats 4000000 in
theorem r20_within (n : Int) (lo hi : Nat) (w : World) : Calls Try.prog 22 #[.int .i64 n, .int .i64 (lo : Nat), .int .i64 (hi : Nat)] w fun e w' => e = .returned (.int .i64 (clN lo hi n : Nat)) ∧ w' = w := by
  by_cases h0 : n < (lo : Int)
  · rw [clN_lo h0]
    go_enter Try.func22, Try.ntmps22
    go_wp2
    go_ret
    exact ⟨rfl, rfl⟩
  by_cases h1 : (hi : Int) < n
  · rw [clN_hi h0 h1]
    go_enter Try.func22, Try.ntmps22
    go_wp2
    go_ret
    exact ⟨rfl, rfl⟩
  · rw [clN_in h0 h1]
    go_enter Try.func22, Try.ntmps22
    go_wp2
    go_ret
    exact ⟨rfl, rfl⟩
set_option maxRecDepth 20000 in
set_option maxHeartbeats 4000000 in
theorem r20_new (m0 p0 : Int) (w : World) : Calls Try.prog 7 #[.int .i64 m0, .int .i64 p0] w fun e w' => e = .returned (.agg #[.int .i64 (clN 0 8 m0 : Nat), .int .i64 (clN 1 4 p0 : Nat), .slice none 0 0, .int .i64 64, .int .i64 1, .int .i64 64]) ∧ Below w.heap.size w w' := by
  have K0 := Lib.hid (Blk.new w 33 #[.int .i64 0, .int .i64 0, .slice none 0 0, .int .i64 0, .int .i64 0, .int .i64 0])
  have B0 := Lib.hid ((Below.refl w.heap.size w).alloc (Nat.le_refl _) (.cells #[.int .i64 0, .int .i64 0, .slice none 0 0, .int .i64 0, .int .i64 0, .int .i64 0] 33))
  have W1 := Lib.hid (fun w' => r20_within m0 0 8 w')
  have W2 := Lib.hid (fun w' => r20_within p0 1 4 w')
  have W3 := Lib.hid (fun w' => rbkt_new 64 1 w' (by decide) (by decide))
  rw [show bdN 64 = 64 by decide, show bdN 1 = 1 by decide] at W3
  obtain ⟨most, hm⟩ : ∃ m, m = clN 0 8 m0 := ⟨_, rfl⟩
  obtain ⟨paths, hp⟩ : ∃ m, m = clN 1 4 p0 := ⟨_, rfl⟩
  rw [← hm] at W1 ⊢
  rw [← hp] at W2 ⊢
  clear hm hp
  go_enter Try.func7, Try.ntmps7
  go_upto_region 1 with fail
  generalize w.alloc (.cells #[.int .i64 0, .int .i64 0, .slice none 0 0, .int .i64 0, .int .i64 0, .int .i64 0] 33) = w1 at K0 B0 ⊢
  go_wp2_with fail
  refine (W1.out w1).mono ?_
  rintro e w2 ⟨rfl, hw⟩
  have hw := hw.symm
  subst hw
  go_wp2_with fail
  refine (W2.out w1).mono ?_
  rintro e w2 ⟨rfl, hw⟩
  have hw := hw.symm
  subst hw
  go_wp2_with fail
  refine (W3.out w1).mono ?_
  rintro e w2 ⟨rfl, hb⟩
  have B2 := Lib.hid (B0.out.trans (hb.mono B0.out.size))
  have K2 := Lib.hid (K0.out.below hb K0.out.lt)
  clear hb B0 K0 W1 W2 W3
  unfold bkv
  go_wp2_with (refine stm_store (cs' := #[.int .i64 (most : Nat), .int .i64 (paths : Nat), .slice none 0 0, .int .i64 64, .int .i64 1, .int .i64 64]) K2.out rfl _ _ rfl rfl rfl (by simp) (by kernel_rfl) (by simp [Value.oneCell']) (by simp [setL]) fun w9 hk hs => ?_)
  refine bodyPost_ret (results_agg Try.results7 hk (by rfl) (by kernel_rfl) (by kernel_rfl)) rfl ⟨rfl, B2.out.trans (hs.1.mono (Nat.le_refl _))⟩
set_option maxRecDepth 20000 in
set_option maxHeartbeats 4000000 in
theorem r20_at (most paths left : Nat) (A : Option Addr) (n c : Nat) (l : List (Int × Int)) (id : Int) (w : World) (h : RX w A n c l) (hn : n ≤ 1000) : Calls Try.prog 24 #[.agg #[.int .i64 (most : Nat), .int .i64 (paths : Nat), .slice A n c, .int .i64 64, .int .i64 1, .int .i64 (left : Nat)], .int .i64 id] w fun e w' => e = .returned (.int .i64 (plI l id)) ∧ Below w.heap.size w w' := by
  have K0 := Lib.hid (Blk.new w 33 #[.int .i64 (most : Nat), .int .i64 (paths : Nat), .slice A n c, .int .i64 64, .int .i64 1, .int .i64 (left : Nat)])
  have B0 := Lib.hid ((Below.refl w.heap.size w).alloc (Nat.le_refl _) (.cells #[.int .i64 (most : Nat), .int .i64 (paths : Nat), .slice A n c, .int .i64 64, .int .i64 1, .int .i64 (left : Nat)] 33))
  have HR := Lib.hid (h.rd.below B0.out)
  have HN := Sh.mk h.len
  clear h
  go_enter Try.func24, Try.ntmps24
  go_upto_region 1 with fail
  generalize w.alloc (.cells #[.int .i64 (most : Nat), .int .i64 (paths : Nat), .slice A n c, .int .i64 64, .int .i64 1, .int .i64 (left : Nat)] 33) = w1 at K0 B0 HR ⊢
  obtain ⟨X, hX⟩ : ∃ X, X = w.heap.size := ⟨_, rfl⟩
  have HX := Sh.mk hX
  rw [← hX] at K0 HR ⊢
  clear hX
  go_wp2_with fail
  go_loopw [5] (fun iv wr => ∃ (k : Nat), k ≤ n ∧ iv = .int .i64 (k : Nat) ∧ Hid (∀ d ∈ l.take k, d.1 ≠ id) ∧ Hid (Below w1.heap.size w1 wr)) (fun iv _ => n - (intOf iv).toNat)
  case atStart => exact ⟨0, Nat.zero_le _, rfl, Lib.hid (by simp), Lib.hid (Below.refl _ _)⟩
  case round =>
    obtain ⟨k, hk, rfl, HA, BB⟩ := hrel
    have K1 := Lib.hid (K0.out.below BB.out K0.out.lt)
    have c2 : wr.cell? ⟨X, 2, none⟩ = some (.slice A n c) := by rw [K1.out.cell]; rfl
    by_cases hlt : k < n
    · have hlt' : (k : Int) < (n : Int) := by omega
      have hk0 : (0 : Int) ≤ (k : Int) := by omega
      have ek : IntKind.i64.wrap ((k : Int) + 1) = (k : Int) + 1 := by rw [IntKind.wrap_i64]; omega
      obtain ⟨rb, off, x, y, rfl, hrb, hx, hy, HXX⟩ := HR.out.pz hlt
      have a0 := (BB.out.cell (p := ⟨rb, off + k * 2, none⟩) (Nat.lt_of_lt_of_le hrb (by rw [HX.out]; exact B0.out.size))).trans hx
      clear hx hy K1
      by_cases hid : x = id
      · have hid' : (x == id) = true := by simpa using hid
        have HI := Sh.mk (plI_hit HXX.out hid HA.out)
        have BW := Lib.hid (B0.out.trans (BB.out.mono B0.out.size))
        clear hid
        go_wp2_with fail
        go_ret
        exact ⟨by rw [HI.out]; first | rfl | simp, BW.out⟩
      · have hid' : (x == id) = false := by simpa using hid
        have HA2 := Lib.hid (take_ne (P := fun d => d.1 ≠ id) HXX.out HA.out hid)
        clear hid
        go_wp2_with fail
        go_roundw
        case rel => exact ⟨k + 1, by omega, by go_num, HA2, BB⟩
        case measure => simp [intOf]; omega
    · have hlt' : ¬ (k : Int) < (n : Int) := by omega
      have HI := Sh.mk (plI_no (l := l) (id := id) (by have := HA.out; rw [List.take_of_length_le (by rw [HN.out]; omega)] at this; exact this))
      have BW := Lib.hid (B0.out.trans (BB.out.mono B0.out.size))
      clear hlt
      go_wp2_with fail
      go_ret
      exact ⟨by rw [HI.out]; rfl, BW.out⟩
set_option maxRecDepth 20000 in
set_option maxHeartbeats 4000000 in
theorem r20_addA0 (most paths left : Nat) (A : Option Addr) (n c : Nat) (l : List (Int × Int)) (x y : Int) (w : World) (h : RX w A n c l) (hl : n ≤ most) (h8 : most ≤ 8) (h64 : left ≤ 64)  (gk : x < 0) :
    Calls Try.prog 12 #[.agg #[.int .i64 (most : Nat), .int .i64 (paths : Nat), .slice A n c, .int .i64 64, .int .i64 1, .int .i64 (left : Nat)], .agg #[.int .i64 x, .int .i64 y]] w fun e w' => ∃ A' n' c', e = .returned (.tuple #[.agg #[.int .i64 (most : Nat), .int .i64 (paths : Nat), .slice A' n' c', .int .i64 64, .int .i64 1, .int .i64 (left : Nat)], .bool false]) ∧ RX w' A' n' c' (l) ∧ Below w.heap.size w w' := by
  have z1 : (w.alloc (.cells #[.int .i64 (most : Nat), .int .i64 (paths : Nat), .slice A n c, .int .i64 64, .int .i64 1, .int .i64 (left : Nat)] 33)).heap.size = w.heap.size + 1 := by simp
  have z2 : ((w.alloc (.cells #[.int .i64 (most : Nat), .int .i64 (paths : Nat), .slice A n c, .int .i64 64, .int .i64 1, .int .i64 (left : Nat)] 33)).alloc (.cells #[.int .i64 x, .int .i64 y] 45)).heap.size = w.heap.size + 2 := by simp
  have K2 := Lib.hid (((Blk.new w 33 #[.int .i64 (most : Nat), .int .i64 (paths : Nat), .slice A n c, .int .i64 64, .int .i64 1, .int .i64 (left : Nat)]).alloc (.cells #[.int .i64 x, .int .i64 y] 45)).alloc (.cells #[.int .i64 0, .int .i64 0, .slice none 0 0, .int .i64 0, .int .i64 0, .int .i64 0] 33))
  have K3 := Lib.hid ((Blk.new (w.alloc (.cells #[.int .i64 (most : Nat), .int .i64 (paths : Nat), .slice A n c, .int .i64 64, .int .i64 1, .int .i64 (left : Nat)] 33)) 45 #[.int .i64 x, .int .i64 y]).alloc (.cells #[.int .i64 0, .int .i64 0, .slice none 0 0, .int .i64 0, .int .i64 0, .int .i64 0] 33))
  have K4 := Lib.hid (Blk.new ((w.alloc (.cells #[.int .i64 (most : Nat), .int .i64 (paths : Nat), .slice A n c, .int .i64 64, .int .i64 1, .int .i64 (left : Nat)] 33)).alloc (.cells #[.int .i64 x, .int .i64 y] 45)) 33 #[.int .i64 0, .int .i64 0, .slice none 0 0, .int .i64 0, .int .i64 0, .int .i64 0])
  have B1 := Lib.hid ((((Below.refl w.heap.size w).alloc (Nat.le_refl _) (.cells #[.int .i64 (most : Nat), .int .i64 (paths : Nat), .slice A n c, .int .i64 64, .int .i64 1, .int .i64 (left : Nat)] 33)).alloc (by simp) (.cells #[.int .i64 x, .int .i64 y] 45)).alloc (by simp; omega) (.cells #[.int .i64 0, .int .i64 0, .slice none 0 0, .int .i64 0, .int .i64 0, .int .i64 0] 33))
  rw [z1] at K3
  rw [z2] at K4
  have H1 := Lib.hid (h.into B1.out)
  have HN := Sh.mk h.len
  clear h
  go_enter Try.func12, Try.ntmps12
  go_upto_region 1 with fail
  generalize (((w.alloc (.cells #[.int .i64 (most : Nat), .int .i64 (paths : Nat), .slice A n c, .int .i64 64, .int .i64 1, .int .i64 (left : Nat)] 33)).alloc (.cells #[.int .i64 x, .int .i64 y] 45)).alloc (.cells #[.int .i64 0, .int .i64 0, .slice none 0 0, .int .i64 0, .int .i64 0, .int .i64 0] 33)) = w1 at K2 K3 K4 B1 H1 ⊢
  obtain ⟨X, hX⟩ : ∃ X, X = w.heap.size := ⟨_, rfl⟩
  have HX := Sh.mk hX
  rw [← hX] at K2 K3 K4 ⊢
  clear hX z1 z2
  have AT := Lib.hid (r20_at most paths left A n c l x w1 H1.out (by omega))
  obtain ⟨c0, c1, c2, c3, c4, c5⟩ : w1.cell? ⟨X, 0, none⟩ = some (.int .i64 (most : Nat)) ∧ w1.cell? ⟨X, 1, none⟩ = some (.int .i64 (paths : Nat)) ∧ w1.cell? ⟨X, 2, none⟩ = some (.slice A n c) ∧ w1.cell? ⟨X, 3, none⟩ = some (.int .i64 64) ∧ w1.cell? ⟨X, 4, none⟩ = some (.int .i64 1) ∧ w1.cell? ⟨X, 5, none⟩ = some (.int .i64 (left : Nat)) := ⟨(K2.out.cell 0).trans rfl, (K2.out.cell 1).trans rfl, (K2.out.cell 2).trans rfl, (K2.out.cell 3).trans rfl, (K2.out.cell 4).trans rfl, (K2.out.cell 5).trans rfl⟩
  have a0 : w1.cell? ⟨X + 1, 0, none⟩ = some (.int .i64 x) := by rw [K3.out.cell]; rfl
  go_wp2_with fail
  refine AT.out.mono ?_
  rintro e w2 ⟨rfl, hb⟩
  replace K2 := Lib.hid (K2.out.below hb K2.out.lt)
  replace K3 := Lib.hid (K3.out.below hb K3.out.lt)
  replace K4 := Lib.hid (K4.out.below hb K4.out.lt)
  replace H1 := Lib.hid (H1.out.into hb)
  replace B1 := Lib.hid (B1.out.trans (hb.mono B1.out.size))
  clear hb AT c0 c1 c2 c3 c4 c5 a0
  have c0 : w2.cell? ⟨X, 0, none⟩ = some (.int .i64 (most : Nat)) := by rw [K2.out.cell]; rfl
  have c1 : w2.cell? ⟨X, 1, none⟩ = some (.int .i64 (paths : Nat)) := by rw [K2.out.cell]; rfl
  have c2 : w2.cell? ⟨X, 2, none⟩ = some (.slice A n c) := by rw [K2.out.cell]; rfl
  have c5 : w2.cell? ⟨X, 5, none⟩ = some (.int .i64 (left : Nat)) := by rw [K2.out.cell]; rfl
  have a0 : w2.cell? ⟨X + 1, 0, none⟩ = some (.int .i64 x) := by rw [K3.out.cell]; rfl
  have a1 : w2.cell? ⟨X + 1, 1, none⟩ = some (.int .i64 y) := by rw [K3.out.cell]; rfl
  go_upto_region 2 with fail
  have dk : decide (x < 0) = true := decide_eq_true gk
  refine wp_ext (by kernel_rfl) (by kernel_rfl) (fun QQ hQ => ?_)
  iterate 51 (first | (refine x_skip (by rfl) ?_; simp only [Act.put, List.setIfInBounds_toArray, List.set_cons_zero, List.set_cons_succ]) | (first | (refine x_load _ (by rfl) rfl rfl (by assumption) (by kernel_rfl) ?_; simp only [Act.put, List.setIfInBounds_toArray, List.set_cons_zero, List.set_cons_succ]) | (refine x_val (v := ?_) (by rfl) (fun w' hx => ?_) ?_; rotate_left; (focus (go_simp; (try with_reducible rfl))); (try simp only [Act.put, List.setIfInBounds_toArray, List.set_cons_zero, List.set_cons_succ]))))
  refine x_nil (hQ.out _ ?_); clear hQ QQ
  intro w3 hb
  replace K2 := Lib.hid (K2.out.below hb K2.out.lt)
  replace K3 := Lib.hid (K3.out.below hb K3.out.lt)
  replace K4 := Lib.hid (K4.out.below hb K4.out.lt)
  replace H1 := Lib.hid (H1.out.into hb)
  replace B1 := Lib.hid (B1.out.trans (hb.mono B1.out.size))
  clear hb c0 c1 c2 c5 a0 a1
  obtain ⟨c0, c1, c2, c3, c4, c5⟩ : w3.cell? ⟨X, 0, none⟩ = some (.int .i64 (most : Nat)) ∧ w3.cell? ⟨X, 1, none⟩ = some (.int .i64 (paths : Nat)) ∧ w3.cell? ⟨X, 2, none⟩ = some (.slice A n c) ∧ w3.cell? ⟨X, 3, none⟩ = some (.int .i64 64) ∧ w3.cell? ⟨X, 4, none⟩ = some (.int .i64 1) ∧ w3.cell? ⟨X, 5, none⟩ = some (.int .i64 (left : Nat)) := ⟨(K2.out.cell 0).trans rfl, (K2.out.cell 1).trans rfl, (K2.out.cell 2).trans rfl, (K2.out.cell 3).trans rfl, (K2.out.cell 4).trans rfl, (K2.out.cell 5).trans rfl⟩
  go_wp2_with (refine stm_store (cs' := #[.int .i64 (most : Nat), .int .i64 (paths : Nat), .slice A n c, .int .i64 64, .int .i64 1, .int .i64 (left : Nat)]) K4.out rfl _ _ rfl rfl rfl (by simp) (by kernel_rfl) (by simp [Value.oneCell']) (by simp [setL]) fun w9 hk hs => ?_)
  obtain ⟨q0, q1, q2, q3, q4, q5⟩ : w9.cell? ⟨X + 2, 0, none⟩ = some (.int .i64 (most : Nat)) ∧ w9.cell? ⟨X + 2, 1, none⟩ = some (.int .i64 (paths : Nat)) ∧ w9.cell? ⟨X + 2, 2, none⟩ = some (.slice A n c) ∧ w9.cell? ⟨X + 2, 3, none⟩ = some (.int .i64 64) ∧ w9.cell? ⟨X + 2, 4, none⟩ = some (.int .i64 1) ∧ w9.cell? ⟨X + 2, 5, none⟩ = some (.int .i64 (left : Nat)) := ⟨(hk.cell 0).trans rfl, (hk.cell 1).trans rfl, (hk.cell 2).trans rfl, (hk.cell 3).trans rfl, (hk.cell 4).trans rfl, (hk.cell 5).trans rfl⟩
  refine bodyPost_ret (v := .tuple #[.agg #[.int .i64 (most : Nat), .int .i64 (paths : Nat), .slice A n c, .int .i64 64, .int .i64 1, .int .i64 (left : Nat)], .bool false]) (by simp [results, Try.results12, go_sem, q0, q1, q2, q3, q4, q5]) rfl ?_
  exact ⟨_, _, _, rfl, H1.out.solo K4.out (by decide) hs, B1.out.trans (hs.1.mono (by have := HX.out; omega))⟩
set_option maxRecDepth 20000 in
set_option maxHeartbeats 4000000 in
theorem r20_addA1 (most paths left : Nat) (A : Option Addr) (n c : Nat) (l : List (Int × Int)) (x y : Int) (w : World) (h : RX w A n c l) (hl : n ≤ most) (h8 : most ≤ 8) (h64 : left ≤ 64) (g0 : 0 ≤ x) (gk : 255 < x) :
    Calls Try.prog 12 #[.agg #[.int .i64 (most : Nat), .int .i64 (paths : Nat), .slice A n c, .int .i64 64, .int .i64 1, .int .i64 (left : Nat)], .agg #[.int .i64 x, .int .i64 y]] w fun e w' => ∃ A' n' c', e = .returned (.tuple #[.agg #[.int .i64 (most : Nat), .int .i64 (paths : Nat), .slice A' n' c', .int .i64 64, .int .i64 1, .int .i64 (left : Nat)], .bool false]) ∧ RX w' A' n' c' (l) ∧ Below w.heap.size w w' := by
  have z1 : (w.alloc (.cells #[.int .i64 (most : Nat), .int .i64 (paths : Nat), .slice A n c, .int .i64 64, .int .i64 1, .int .i64 (left : Nat)] 33)).heap.size = w.heap.size + 1 := by simp
  have z2 : ((w.alloc (.cells #[.int .i64 (most : Nat), .int .i64 (paths : Nat), .slice A n c, .int .i64 64, .int .i64 1, .int .i64 (left : Nat)] 33)).alloc (.cells #[.int .i64 x, .int .i64 y] 45)).heap.size = w.heap.size + 2 := by simp
  have K2 := Lib.hid (((Blk.new w 33 #[.int .i64 (most : Nat), .int .i64 (paths : Nat), .slice A n c, .int .i64 64, .int .i64 1, .int .i64 (left : Nat)]).alloc (.cells #[.int .i64 x, .int .i64 y] 45)).alloc (.cells #[.int .i64 0, .int .i64 0, .slice none 0 0, .int .i64 0, .int .i64 0, .int .i64 0] 33))
  have K3 := Lib.hid ((Blk.new (w.alloc (.cells #[.int .i64 (most : Nat), .int .i64 (paths : Nat), .slice A n c, .int .i64 64, .int .i64 1, .int .i64 (left : Nat)] 33)) 45 #[.int .i64 x, .int .i64 y]).alloc (.cells #[.int .i64 0, .int .i64 0, .slice none 0 0, .int .i64 0, .int .i64 0, .int .i64 0] 33))
  have K4 := Lib.hid (Blk.new ((w.alloc (.cells #[.int .i64 (most : Nat), .int .i64 (paths : Nat), .slice A n c, .int .i64 64, .int .i64 1, .int .i64 (left : Nat)] 33)).alloc (.cells #[.int .i64 x, .int .i64 y] 45)) 33 #[.int .i64 0, .int .i64 0, .slice none 0 0, .int .i64 0, .int .i64 0, .int .i64 0])
  have B1 := Lib.hid ((((Below.refl w.heap.size w).alloc (Nat.le_refl _) (.cells #[.int .i64 (most : Nat), .int .i64 (paths : Nat), .slice A n c, .int .i64 64, .int .i64 1, .int .i64 (left : Nat)] 33)).alloc (by simp) (.cells #[.int .i64 x, .int .i64 y] 45)).alloc (by simp; omega) (.cells #[.int .i64 0, .int .i64 0, .slice none 0 0, .int .i64 0, .int .i64 0, .int .i64 0] 33))
  rw [z1] at K3
  rw [z2] at K4
  have H1 := Lib.hid (h.into B1.out)
  have HN := Sh.mk h.len
  clear h
  go_enter Try.func12, Try.ntmps12
  go_upto_region 1 with fail
  generalize (((w.alloc (.cells #[.int .i64 (most : Nat), .int .i64 (paths : Nat), .slice A n c, .int .i64 64, .int .i64 1, .int .i64 (left : Nat)] 33)).alloc (.cells #[.int .i64 x, .int .i64 y] 45)).alloc (.cells #[.int .i64 0, .int .i64 0, .slice none 0 0, .int .i64 0, .int .i64 0, .int .i64 0] 33)) = w1 at K2 K3 K4 B1 H1 ⊢
  obtain ⟨X, hX⟩ : ∃ X, X = w.heap.size := ⟨_, rfl⟩
  have HX := Sh.mk hX
  rw [← hX] at K2 K3 K4 ⊢
  clear hX z1 z2
  have AT := Lib.hid (r20_at most paths left A n c l x w1 H1.out (by omega))
  obtain ⟨c0, c1, c2, c3, c4, c5⟩ : w1.cell? ⟨X, 0, none⟩ = some (.int .i64 (most : Nat)) ∧ w1.cell? ⟨X, 1, none⟩ = some (.int .i64 (paths : Nat)) ∧ w1.cell? ⟨X, 2, none⟩ = some (.slice A n c) ∧ w1.cell? ⟨X, 3, none⟩ = some (.int .i64 64) ∧ w1.cell? ⟨X, 4, none⟩ = some (.int .i64 1) ∧ w1.cell? ⟨X, 5, none⟩ = some (.int .i64 (left : Nat)) := ⟨(K2.out.cell 0).trans rfl, (K2.out.cell 1).trans rfl, (K2.out.cell 2).trans rfl, (K2.out.cell 3).trans rfl, (K2.out.cell 4).trans rfl, (K2.out.cell 5).trans rfl⟩
  have a0 : w1.cell? ⟨X + 1, 0, none⟩ = some (.int .i64 x) := by rw [K3.out.cell]; rfl
  go_wp2_with fail
  refine AT.out.mono ?_
  rintro e w2 ⟨rfl, hb⟩
  replace K2 := Lib.hid (K2.out.below hb K2.out.lt)
  replace K3 := Lib.hid (K3.out.below hb K3.out.lt)
  replace K4 := Lib.hid (K4.out.below hb K4.out.lt)
  replace H1 := Lib.hid (H1.out.into hb)
  replace B1 := Lib.hid (B1.out.trans (hb.mono B1.out.size))
  clear hb AT c0 c1 c2 c3 c4 c5 a0
  have c0 : w2.cell? ⟨X, 0, none⟩ = some (.int .i64 (most : Nat)) := by rw [K2.out.cell]; rfl
  have c1 : w2.cell? ⟨X, 1, none⟩ = some (.int .i64 (paths : Nat)) := by rw [K2.out.cell]; rfl
  have c2 : w2.cell? ⟨X, 2, none⟩ = some (.slice A n c) := by rw [K2.out.cell]; rfl
  have c5 : w2.cell? ⟨X, 5, none⟩ = some (.int .i64 (left : Nat)) := by rw [K2.out.cell]; rfl
  have a0 : w2.cell? ⟨X + 1, 0, none⟩ = some (.int .i64 x) := by rw [K3.out.cell]; rfl
  have a1 : w2.cell? ⟨X + 1, 1, none⟩ = some (.int .i64 y) := by rw [K3.out.cell]; rfl
  go_upto_region 2 with fail
  have d0 : decide (x < 0) = false := decide_eq_false (by omega)
  have f0 : ¬ (x < 0) := by omega
  have dk : decide (255 < x) = true := decide_eq_true gk
  refine wp_ext (by kernel_rfl) (by kernel_rfl) (fun QQ hQ => ?_)
  iterate 51 (first | (refine x_skip (by rfl) ?_; simp only [Act.put, List.setIfInBounds_toArray, List.set_cons_zero, List.set_cons_succ]) | (first | (refine x_load _ (by rfl) rfl rfl (by assumption) (by kernel_rfl) ?_; simp only [Act.put, List.setIfInBounds_toArray, List.set_cons_zero, List.set_cons_succ]) | (refine x_val (v := ?_) (by rfl) (fun w' hx => ?_) ?_; rotate_left; (focus (go_simp; (try with_reducible rfl))); (try simp only [Act.put, List.setIfInBounds_toArray, List.set_cons_zero, List.set_cons_succ]))))
  refine x_nil (hQ.out _ ?_); clear hQ QQ
  intro w3 hb
  replace K2 := Lib.hid (K2.out.below hb K2.out.lt)
  replace K3 := Lib.hid (K3.out.below hb K3.out.lt)
  replace K4 := Lib.hid (K4.out.below hb K4.out.lt)
  replace H1 := Lib.hid (H1.out.into hb)
  replace B1 := Lib.hid (B1.out.trans (hb.mono B1.out.size))
  clear hb c0 c1 c2 c5 a0 a1
  obtain ⟨c0, c1, c2, c3, c4, c5⟩ : w3.cell? ⟨X, 0, none⟩ = some (.int .i64 (most : Nat)) ∧ w3.cell? ⟨X, 1, none⟩ = some (.int .i64 (paths : Nat)) ∧ w3.cell? ⟨X, 2, none⟩ = some (.slice A n c) ∧ w3.cell? ⟨X, 3, none⟩ = some (.int .i64 64) ∧ w3.cell? ⟨X, 4, none⟩ = some (.int .i64 1) ∧ w3.cell? ⟨X, 5, none⟩ = some (.int .i64 (left : Nat)) := ⟨(K2.out.cell 0).trans rfl, (K2.out.cell 1).trans rfl, (K2.out.cell 2).trans rfl, (K2.out.cell 3).trans rfl, (K2.out.cell 4).trans rfl, (K2.out.cell 5).trans rfl⟩
  go_wp2_with (refine stm_store (cs' := #[.int .i64 (most : Nat), .int .i64 (paths : Nat), .slice A n c, .int .i64 64, .int .i64 1, .int .i64 (left : Nat)]) K4.out rfl _ _ rfl rfl rfl (by simp) (by kernel_rfl) (by simp [Value.oneCell']) (by simp [setL]) fun w9 hk hs => ?_)
  obtain ⟨q0, q1, q2, q3, q4, q5⟩ : w9.cell? ⟨X + 2, 0, none⟩ = some (.int .i64 (most : Nat)) ∧ w9.cell? ⟨X + 2, 1, none⟩ = some (.int .i64 (paths : Nat)) ∧ w9.cell? ⟨X + 2, 2, none⟩ = some (.slice A n c) ∧ w9.cell? ⟨X + 2, 3, none⟩ = some (.int .i64 64) ∧ w9.cell? ⟨X + 2, 4, none⟩ = some (.int .i64 1) ∧ w9.cell? ⟨X + 2, 5, none⟩ = some (.int .i64 (left : Nat)) := ⟨(hk.cell 0).trans rfl, (hk.cell 1).trans rfl, (hk.cell 2).trans rfl, (hk.cell 3).trans rfl, (hk.cell 4).trans rfl, (hk.cell 5).trans rfl⟩
  refine bodyPost_ret (v := .tuple #[.agg #[.int .i64 (most : Nat), .int .i64 (paths : Nat), .slice A n c, .int .i64 64, .int .i64 1, .int .i64 (left : Nat)], .bool false]) (by simp [results, Try.results12, go_sem, q0, q1, q2, q3, q4, q5]) rfl ?_
  exact ⟨_, _, _, rfl, H1.out.solo K4.out (by decide) hs, B1.out.trans (hs.1.mono (by have := HX.out; omega))⟩
set_option maxRecDepth 20000 in
set_option maxHeartbeats 4000000 in
theorem r20_addA2 (most paths left : Nat) (A : Option Addr) (n c : Nat) (l : List (Int × Int)) (x y : Int) (w : World) (h : RX w A n c l) (hl : n ≤ most) (h8 : most ≤ 8) (h64 : left ≤ 64) (g0 : 0 ≤ x) (g1 : x ≤ 255) (gk : y < 0) :
    Calls Try.prog 12 #[.agg #[.int .i64 (most : Nat), .int .i64 (paths : Nat), .slice A n c, .int .i64 64, .int .i64 1, .int .i64 (left : Nat)], .agg #[.int .i64 x, .int .i64 y]] w fun e w' => ∃ A' n' c', e = .returned (.tuple #[.agg #[.int .i64 (most : Nat), .int .i64 (paths : Nat), .slice A' n' c', .int .i64 64, .int .i64 1, .int .i64 (left : Nat)], .bool false]) ∧ RX w' A' n' c' (l) ∧ Below w.heap.size w w' := by
  have z1 : (w.alloc (.cells #[.int .i64 (most : Nat), .int .i64 (paths : Nat), .slice A n c, .int .i64 64, .int .i64 1, .int .i64 (left : Nat)] 33)).heap.size = w.heap.size + 1 := by simp
  have z2 : ((w.alloc (.cells #[.int .i64 (most : Nat), .int .i64 (paths : Nat), .slice A n c, .int .i64 64, .int .i64 1, .int .i64 (left : Nat)] 33)).alloc (.cells #[.int .i64 x, .int .i64 y] 45)).heap.size = w.heap.size + 2 := by simp
  have K2 := Lib.hid (((Blk.new w 33 #[.int .i64 (most : Nat), .int .i64 (paths : Nat), .slice A n c, .int .i64 64, .int .i64 1, .int .i64 (left : Nat)]).alloc (.cells #[.int .i64 x, .int .i64 y] 45)).alloc (.cells #[.int .i64 0, .int .i64 0, .slice none 0 0, .int .i64 0, .int .i64 0, .int .i64 0] 33))
  have K3 := Lib.hid ((Blk.new (w.alloc (.cells #[.int .i64 (most : Nat), .int .i64 (paths : Nat), .slice A n c, .int .i64 64, .int .i64 1, .int .i64 (left : Nat)] 33)) 45 #[.int .i64 x, .int .i64 y]).alloc (.cells #[.int .i64 0, .int .i64 0, .slice none 0 0, .int .i64 0, .int .i64 0, .int .i64 0] 33))
  have K4 := Lib.hid (Blk.new ((w.alloc (.cells #[.int .i64 (most : Nat), .int .i64 (paths : Nat), .slice A n c, .int .i64 64, .int .i64 1, .int .i64 (left : Nat)] 33)).alloc (.cells #[.int .i64 x, .int .i64 y] 45)) 33 #[.int .i64 0, .int .i64 0, .slice none 0 0, .int .i64 0, .int .i64 0, .int .i64 0])
  have B1 := Lib.hid ((((Below.refl w.heap.size w).alloc (Nat.le_refl _) (.cells #[.int .i64 (most : Nat), .int .i64 (paths : Nat), .slice A n c, .int .i64 64, .int .i64 1, .int .i64 (left : Nat)] 33)).alloc (by simp) (.cells #[.int .i64 x, .int .i64 y] 45)).alloc (by simp; omega) (.cells #[.int .i64 0, .int .i64 0, .slice none 0 0, .int .i64 0, .int .i64 0, .int .i64 0] 33))
  rw [z1] at K3
  rw [z2] at K4
  have H1 := Lib.hid (h.into B1.out)
  have HN := Sh.mk h.len
  clear h
  go_enter Try.func12, Try.ntmps12
  go_upto_region 1 with fail
  generalize (((w.alloc (.cells #[.int .i64 (most : Nat), .int .i64 (paths : Nat), .slice A n c, .int .i64 64, .int .i64 1, .int .i64 (left : Nat)] 33)).alloc (.cells #[.int .i64 x, .int .i64 y] 45)).alloc (.cells #[.int .i64 0, .int .i64 0, .slice none 0 0, .int .i64 0, .int .i64 0, .int .i64 0] 33)) = w1 at K2 K3 K4 B1 H1 ⊢
  obtain ⟨X, hX⟩ : ∃ X, X = w.heap.size := ⟨_, rfl⟩
  have HX := Sh.mk hX
  rw [← hX] at K2 K3 K4 ⊢
  clear hX z1 z2
  have AT := Lib.hid (r20_at most paths left A n c l x w1 H1.out (by omega))
  obtain ⟨c0, c1, c2, c3, c4, c5⟩ : w1.cell? ⟨X, 0, none⟩ = some (.int .i64 (most : Nat)) ∧ w1.cell? ⟨X, 1, none⟩ = some (.int .i64 (paths : Nat)) ∧ w1.cell? ⟨X, 2, none⟩ = some (.slice A n c) ∧ w1.cell? ⟨X, 3, none⟩ = some (.int .i64 64) ∧ w1.cell? ⟨X, 4, none⟩ = some (.int .i64 1) ∧ w1.cell? ⟨X, 5, none⟩ = some (.int .i64 (left : Nat)) := ⟨(K2.out.cell 0).trans rfl, (K2.out.cell 1).trans rfl, (K2.out.cell 2).trans rfl, (K2.out.cell 3).trans rfl, (K2.out.cell 4).trans rfl, (K2.out.cell 5).trans rfl⟩
  have a0 : w1.cell? ⟨X + 1, 0, none⟩ = some (.int .i64 x) := by rw [K3.out.cell]; rfl
  go_wp2_with fail
  refine AT.out.mono ?_
  rintro e w2 ⟨rfl, hb⟩
  replace K2 := Lib.hid (K2.out.below hb K2.out.lt)
  replace K3 := Lib.hid (K3.out.below hb K3.out.lt)
  replace K4 := Lib.hid (K4.out.below hb K4.out.lt)
  replace H1 := Lib.hid (H1.out.into hb)
  replace B1 := Lib.hid (B1.out.trans (hb.mono B1.out.size))
  clear hb AT c0 c1 c2 c3 c4 c5 a0
  have c0 : w2.cell? ⟨X, 0, none⟩ = some (.int .i64 (most : Nat)) := by rw [K2.out.cell]; rfl
  have c1 : w2.cell? ⟨X, 1, none⟩ = some (.int .i64 (paths : Nat)) := by rw [K2.out.cell]; rfl
  have c2 : w2.cell? ⟨X, 2, none⟩ = some (.slice A n c) := by rw [K2.out.cell]; rfl
  have c5 : w2.cell? ⟨X, 5, none⟩ = some (.int .i64 (left : Nat)) := by rw [K2.out.cell]; rfl
  have a0 : w2.cell? ⟨X + 1, 0, none⟩ = some (.int .i64 x) := by rw [K3.out.cell]; rfl
  have a1 : w2.cell? ⟨X + 1, 1, none⟩ = some (.int .i64 y) := by rw [K3.out.cell]; rfl
  go_upto_region 2 with fail
  have d0 : decide (x < 0) = false := decide_eq_false (by omega)
  have f0 : ¬ (x < 0) := by omega
  have d1 : decide (255 < x) = false := decide_eq_false (by omega)
  have f1 : ¬ (255 < x) := by omega
  have dk : decide (y < 0) = true := decide_eq_true gk
  refine wp_ext (by kernel_rfl) (by kernel_rfl) (fun QQ hQ => ?_)
  iterate 51 (first | (refine x_skip (by rfl) ?_; simp only [Act.put, List.setIfInBounds_toArray, List.set_cons_zero, List.set_cons_succ]) | (first | (refine x_load _ (by rfl) rfl rfl (by assumption) (by kernel_rfl) ?_; simp only [Act.put, List.setIfInBounds_toArray, List.set_cons_zero, List.set_cons_succ]) | (refine x_val (v := ?_) (by rfl) (fun w' hx => ?_) ?_; rotate_left; (focus (go_simp; (try with_reducible rfl))); (try simp only [Act.put, List.setIfInBounds_toArray, List.set_cons_zero, List.set_cons_succ]))))
  refine x_nil (hQ.out _ ?_); clear hQ QQ
  intro w3 hb
  replace K2 := Lib.hid (K2.out.below hb K2.out.lt)
  replace K3 := Lib.hid (K3.out.below hb K3.out.lt)
  replace K4 := Lib.hid (K4.out.below hb K4.out.lt)
  replace H1 := Lib.hid (H1.out.into hb)
  replace B1 := Lib.hid (B1.out.trans (hb.mono B1.out.size))
  clear hb c0 c1 c2 c5 a0 a1
  obtain ⟨c0, c1, c2, c3, c4, c5⟩ : w3.cell? ⟨X, 0, none⟩ = some (.int .i64 (most : Nat)) ∧ w3.cell? ⟨X, 1, none⟩ = some (.int .i64 (paths : Nat)) ∧ w3.cell? ⟨X, 2, none⟩ = some (.slice A n c) ∧ w3.cell? ⟨X, 3, none⟩ = some (.int .i64 64) ∧ w3.cell? ⟨X, 4, none⟩ = some (.int .i64 1) ∧ w3.cell? ⟨X, 5, none⟩ = some (.int .i64 (left : Nat)) := ⟨(K2.out.cell 0).trans rfl, (K2.out.cell 1).trans rfl, (K2.out.cell 2).trans rfl, (K2.out.cell 3).trans rfl, (K2.out.cell 4).trans rfl, (K2.out.cell 5).trans rfl⟩
  go_wp2_with (refine stm_store (cs' := #[.int .i64 (most : Nat), .int .i64 (paths : Nat), .slice A n c, .int .i64 64, .int .i64 1, .int .i64 (left : Nat)]) K4.out rfl _ _ rfl rfl rfl (by simp) (by kernel_rfl) (by simp [Value.oneCell']) (by simp [setL]) fun w9 hk hs => ?_)
  obtain ⟨q0, q1, q2, q3, q4, q5⟩ : w9.cell? ⟨X + 2, 0, none⟩ = some (.int .i64 (most : Nat)) ∧ w9.cell? ⟨X + 2, 1, none⟩ = some (.int .i64 (paths : Nat)) ∧ w9.cell? ⟨X + 2, 2, none⟩ = some (.slice A n c) ∧ w9.cell? ⟨X + 2, 3, none⟩ = some (.int .i64 64) ∧ w9.cell? ⟨X + 2, 4, none⟩ = some (.int .i64 1) ∧ w9.cell? ⟨X + 2, 5, none⟩ = some (.int .i64 (left : Nat)) := ⟨(hk.cell 0).trans rfl, (hk.cell 1).trans rfl, (hk.cell 2).trans rfl, (hk.cell 3).trans rfl, (hk.cell 4).trans rfl, (hk.cell 5).trans rfl⟩
  refine bodyPost_ret (v := .tuple #[.agg #[.int .i64 (most : Nat), .int .i64 (paths : Nat), .slice A n c, .int .i64 64, .int .i64 1, .int .i64 (left : Nat)], .bool false]) (by simp [results, Try.results12, go_sem, q0, q1, q2, q3, q4, q5]) rfl ?_
  exact ⟨_, _, _, rfl, H1.out.solo K4.out (by decide) hs, B1.out.trans (hs.1.mono (by have := HX.out; omega))⟩
set_option maxRecDepth 20000 in
set_option maxHeartbeats 4000000 in
theorem r20_addA3 (most paths left : Nat) (A : Option Addr) (n c : Nat) (l : List (Int × Int)) (x y : Int) (w : World) (h : RX w A n c l) (hl : n ≤ most) (h8 : most ≤ 8) (h64 : left ≤ 64) (g0 : 0 ≤ x) (g1 : x ≤ 255) (g2 : 0 ≤ y) (gk : (paths : Int) ≤ y) :
    Calls Try.prog 12 #[.agg #[.int .i64 (most : Nat), .int .i64 (paths : Nat), .slice A n c, .int .i64 64, .int .i64 1, .int .i64 (left : Nat)], .agg #[.int .i64 x, .int .i64 y]] w fun e w' => ∃ A' n' c', e = .returned (.tuple #[.agg #[.int .i64 (most : Nat), .int .i64 (paths : Nat), .slice A' n' c', .int .i64 64, .int .i64 1, .int .i64 (left : Nat)], .bool false]) ∧ RX w' A' n' c' (l) ∧ Below w.heap.size w w' := by
  have z1 : (w.alloc (.cells #[.int .i64 (most : Nat), .int .i64 (paths : Nat), .slice A n c, .int .i64 64, .int .i64 1, .int .i64 (left : Nat)] 33)).heap.size = w.heap.size + 1 := by simp
  have z2 : ((w.alloc (.cells #[.int .i64 (most : Nat), .int .i64 (paths : Nat), .slice A n c, .int .i64 64, .int .i64 1, .int .i64 (left : Nat)] 33)).alloc (.cells #[.int .i64 x, .int .i64 y] 45)).heap.size = w.heap.size + 2 := by simp
  have K2 := Lib.hid (((Blk.new w 33 #[.int .i64 (most : Nat), .int .i64 (paths : Nat), .slice A n c, .int .i64 64, .int .i64 1, .int .i64 (left : Nat)]).alloc (.cells #[.int .i64 x, .int .i64 y] 45)).alloc (.cells #[.int .i64 0, .int .i64 0, .slice none 0 0, .int .i64 0, .int .i64 0, .int .i64 0] 33))
  have K3 := Lib.hid ((Blk.new (w.alloc (.cells #[.int .i64 (most : Nat), .int .i64 (paths : Nat), .slice A n c, .int .i64 64, .int .i64 1, .int .i64 (left : Nat)] 33)) 45 #[.int .i64 x, .int .i64 y]).alloc (.cells #[.int .i64 0, .int .i64 0, .slice none 0 0, .int .i64 0, .int .i64 0, .int .i64 0] 33))
  have K4 := Lib.hid (Blk.new ((w.alloc (.cells #[.int .i64 (most : Nat), .int .i64 (paths : Nat), .slice A n c, .int .i64 64, .int .i64 1, .int .i64 (left : Nat)] 33)).alloc (.cells #[.int .i64 x, .int .i64 y] 45)) 33 #[.int .i64 0, .int .i64 0, .slice none 0 0, .int .i64 0, .int .i64 0, .int .i64 0])
  have B1 := Lib.hid ((((Below.refl w.heap.size w).alloc (Nat.le_refl _) (.cells #[.int .i64 (most : Nat), .int .i64 (paths : Nat), .slice A n c, .int .i64 64, .int .i64 1, .int .i64 (left : Nat)] 33)).alloc (by simp) (.cells #[.int .i64 x, .int .i64 y] 45)).alloc (by simp; omega) (.cells #[.int .i64 0, .int .i64 0, .slice none 0 0, .int .i64 0, .int .i64 0, .int .i64 0] 33))
  rw [z1] at K3
  rw [z2] at K4
  have H1 := Lib.hid (h.into B1.out)
  have HN := Sh.mk h.len
  clear h
  go_enter Try.func12, Try.ntmps12
  go_upto_region 1 with fail
  generalize (((w.alloc (.cells #[.int .i64 (most : Nat), .int .i64 (paths : Nat), .slice A n c, .int .i64 64, .int .i64 1, .int .i64 (left : Nat)] 33)).alloc (.cells #[.int .i64 x, .int .i64 y] 45)).alloc (.cells #[.int .i64 0, .int .i64 0, .slice none 0 0, .int .i64 0, .int .i64 0, .int .i64 0] 33)) = w1 at K2 K3 K4 B1 H1 ⊢
  obtain ⟨X, hX⟩ : ∃ X, X = w.heap.size := ⟨_, rfl⟩
  have HX := Sh.mk hX
  rw [← hX] at K2 K3 K4 ⊢
  clear hX z1 z2
  have AT := Lib.hid (r20_at most paths left A n c l x w1 H1.out (by omega))
  obtain ⟨c0, c1, c2, c3, c4, c5⟩ : w1.cell? ⟨X, 0, none⟩ = some (.int .i64 (most : Nat)) ∧ w1.cell? ⟨X, 1, none⟩ = some (.int .i64 (paths : Nat)) ∧ w1.cell? ⟨X, 2, none⟩ = some (.slice A n c) ∧ w1.cell? ⟨X, 3, none⟩ = some (.int .i64 64) ∧ w1.cell? ⟨X, 4, none⟩ = some (.int .i64 1) ∧ w1.cell? ⟨X, 5, none⟩ = some (.int .i64 (left : Nat)) := ⟨(K2.out.cell 0).trans rfl, (K2.out.cell 1).trans rfl, (K2.out.cell 2).trans rfl, (K2.out.cell 3).trans rfl, (K2.out.cell 4).trans rfl, (K2.out.cell 5).trans rfl⟩
  have a0 : w1.cell? ⟨X + 1, 0, none⟩ = some (.int .i64 x) := by rw [K3.out.cell]; rfl
  go_wp2_with fail
  refine AT.out.mono ?_
  rintro e w2 ⟨rfl, hb⟩
  replace K2 := Lib.hid (K2.out.below hb K2.out.lt)
  replace K3 := Lib.hid (K3.out.below hb K3.out.lt)
  replace K4 := Lib.hid (K4.out.below hb K4.out.lt)
  replace H1 := Lib.hid (H1.out.into hb)
  replace B1 := Lib.hid (B1.out.trans (hb.mono B1.out.size))
  clear hb AT c0 c1 c2 c3 c4 c5 a0
  have c0 : w2.cell? ⟨X, 0, none⟩ = some (.int .i64 (most : Nat)) := by rw [K2.out.cell]; rfl
  have c1 : w2.cell? ⟨X, 1, none⟩ = some (.int .i64 (paths : Nat)) := by rw [K2.out.cell]; rfl
  have c2 : w2.cell? ⟨X, 2, none⟩ = some (.slice A n c) := by rw [K2.out.cell]; rfl
  have c5 : w2.cell? ⟨X, 5, none⟩ = some (.int .i64 (left : Nat)) := by rw [K2.out.cell]; rfl
  have a0 : w2.cell? ⟨X + 1, 0, none⟩ = some (.int .i64 x) := by rw [K3.out.cell]; rfl
  have a1 : w2.cell? ⟨X + 1, 1, none⟩ = some (.int .i64 y) := by rw [K3.out.cell]; rfl
  go_upto_region 2 with fail
  have d0 : decide (x < 0) = false := decide_eq_false (by omega)
  have f0 : ¬ (x < 0) := by omega
  have d1 : decide (255 < x) = false := decide_eq_false (by omega)
  have f1 : ¬ (255 < x) := by omega
  have d2 : decide (y < 0) = false := decide_eq_false (by omega)
  have f2 : ¬ (y < 0) := by omega
  have dk : decide ((paths : Int) ≤ y) = true := decide_eq_true gk
  refine wp_ext (by kernel_rfl) (by kernel_rfl) (fun QQ hQ => ?_)
  iterate 51 (first | (refine x_skip (by rfl) ?_; simp only [Act.put, List.setIfInBounds_toArray, List.set_cons_zero, List.set_cons_succ]) | (first | (refine x_load _ (by rfl) rfl rfl (by assumption) (by kernel_rfl) ?_; simp only [Act.put, List.setIfInBounds_toArray, List.set_cons_zero, List.set_cons_succ]) | (refine x_val (v := ?_) (by rfl) (fun w' hx => ?_) ?_; rotate_left; (focus (go_simp; (try with_reducible rfl))); (try simp only [Act.put, List.setIfInBounds_toArray, List.set_cons_zero, List.set_cons_succ]))))
  refine x_nil (hQ.out _ ?_); clear hQ QQ
  intro w3 hb
  replace K2 := Lib.hid (K2.out.below hb K2.out.lt)
  replace K3 := Lib.hid (K3.out.below hb K3.out.lt)
  replace K4 := Lib.hid (K4.out.below hb K4.out.lt)
  replace H1 := Lib.hid (H1.out.into hb)
  replace B1 := Lib.hid (B1.out.trans (hb.mono B1.out.size))
  clear hb c0 c1 c2 c5 a0 a1
  obtain ⟨c0, c1, c2, c3, c4, c5⟩ : w3.cell? ⟨X, 0, none⟩ = some (.int .i64 (most : Nat)) ∧ w3.cell? ⟨X, 1, none⟩ = some (.int .i64 (paths : Nat)) ∧ w3.cell? ⟨X, 2, none⟩ = some (.slice A n c) ∧ w3.cell? ⟨X, 3, none⟩ = some (.int .i64 64) ∧ w3.cell? ⟨X, 4, none⟩ = some (.int .i64 1) ∧ w3.cell? ⟨X, 5, none⟩ = some (.int .i64 (left : Nat)) := ⟨(K2.out.cell 0).trans rfl, (K2.out.cell 1).trans rfl, (K2.out.cell 2).trans rfl, (K2.out.cell 3).trans rfl, (K2.out.cell 4).trans rfl, (K2.out.cell 5).trans rfl⟩
  go_wp2_with (refine stm_store (cs' := #[.int .i64 (most : Nat), .int .i64 (paths : Nat), .slice A n c, .int .i64 64, .int .i64 1, .int .i64 (left : Nat)]) K4.out rfl _ _ rfl rfl rfl (by simp) (by kernel_rfl) (by simp [Value.oneCell']) (by simp [setL]) fun w9 hk hs => ?_)
  obtain ⟨q0, q1, q2, q3, q4, q5⟩ : w9.cell? ⟨X + 2, 0, none⟩ = some (.int .i64 (most : Nat)) ∧ w9.cell? ⟨X + 2, 1, none⟩ = some (.int .i64 (paths : Nat)) ∧ w9.cell? ⟨X + 2, 2, none⟩ = some (.slice A n c) ∧ w9.cell? ⟨X + 2, 3, none⟩ = some (.int .i64 64) ∧ w9.cell? ⟨X + 2, 4, none⟩ = some (.int .i64 1) ∧ w9.cell? ⟨X + 2, 5, none⟩ = some (.int .i64 (left : Nat)) := ⟨(hk.cell 0).trans rfl, (hk.cell 1).trans rfl, (hk.cell 2).trans rfl, (hk.cell 3).trans rfl, (hk.cell 4).trans rfl, (hk.cell 5).trans rfl⟩
  refine bodyPost_ret (v := .tuple #[.agg #[.int .i64 (most : Nat), .int .i64 (paths : Nat), .slice A n c, .int .i64 64, .int .i64 1, .int .i64 (left : Nat)], .bool false]) (by simp [results, Try.results12, go_sem, q0, q1, q2, q3, q4, q5]) rfl ?_
  exact ⟨_, _, _, rfl, H1.out.solo K4.out (by decide) hs, B1.out.trans (hs.1.mono (by have := HX.out; omega))⟩
set_option maxRecDepth 20000 in
set_option maxHeartbeats 4000000 in
theorem r20_addB (most paths left : Nat) (A : Option Addr) (n c : Nat) (l : List (Int × Int)) (x y : Int) (w : World) (h : RX w A n c l) (hl : n ≤ most) (h8 : most ≤ 8) (h64 : left ≤ 64) (g0 : 0 ≤ x) (g1 : x ≤ 255) (g2 : 0 ≤ y) (g3 : y < (paths : Int)) (k : Nat) (hpl : plI l x = (k : Int)) (hka : l[k]? = some (x, y)) :
    Calls Try.prog 12 #[.agg #[.int .i64 (most : Nat), .int .i64 (paths : Nat), .slice A n c, .int .i64 64, .int .i64 1, .int .i64 (left : Nat)], .agg #[.int .i64 x, .int .i64 y]] w fun e w' => ∃ A' n' c', e = .returned (.tuple #[.agg #[.int .i64 (most : Nat), .int .i64 (paths : Nat), .slice A' n' c', .int .i64 64, .int .i64 1, .int .i64 (left : Nat)], .bool false]) ∧ RX w' A' n' c' (l) ∧ Below w.heap.size w w' := by
  have z1 : (w.alloc (.cells #[.int .i64 (most : Nat), .int .i64 (paths : Nat), .slice A n c, .int .i64 64, .int .i64 1, .int .i64 (left : Nat)] 33)).heap.size = w.heap.size + 1 := by simp
  have z2 : ((w.alloc (.cells #[.int .i64 (most : Nat), .int .i64 (paths : Nat), .slice A n c, .int .i64 64, .int .i64 1, .int .i64 (left : Nat)] 33)).alloc (.cells #[.int .i64 x, .int .i64 y] 45)).heap.size = w.heap.size + 2 := by simp
  have K2 := Lib.hid (((Blk.new w 33 #[.int .i64 (most : Nat), .int .i64 (paths : Nat), .slice A n c, .int .i64 64, .int .i64 1, .int .i64 (left : Nat)]).alloc (.cells #[.int .i64 x, .int .i64 y] 45)).alloc (.cells #[.int .i64 0, .int .i64 0, .slice none 0 0, .int .i64 0, .int .i64 0, .int .i64 0] 33))
  have K3 := Lib.hid ((Blk.new (w.alloc (.cells #[.int .i64 (most : Nat), .int .i64 (paths : Nat), .slice A n c, .int .i64 64, .int .i64 1, .int .i64 (left : Nat)] 33)) 45 #[.int .i64 x, .int .i64 y]).alloc (.cells #[.int .i64 0, .int .i64 0, .slice none 0 0, .int .i64 0, .int .i64 0, .int .i64 0] 33))
  have K4 := Lib.hid (Blk.new ((w.alloc (.cells #[.int .i64 (most : Nat), .int .i64 (paths : Nat), .slice A n c, .int .i64 64, .int .i64 1, .int .i64 (left : Nat)] 33)).alloc (.cells #[.int .i64 x, .int .i64 y] 45)) 33 #[.int .i64 0, .int .i64 0, .slice none 0 0, .int .i64 0, .int .i64 0, .int .i64 0])
  have B1 := Lib.hid ((((Below.refl w.heap.size w).alloc (Nat.le_refl _) (.cells #[.int .i64 (most : Nat), .int .i64 (paths : Nat), .slice A n c, .int .i64 64, .int .i64 1, .int .i64 (left : Nat)] 33)).alloc (by simp) (.cells #[.int .i64 x, .int .i64 y] 45)).alloc (by simp; omega) (.cells #[.int .i64 0, .int .i64 0, .slice none 0 0, .int .i64 0, .int .i64 0, .int .i64 0] 33))
  rw [z1] at K3
  rw [z2] at K4
  have H1 := Lib.hid (h.into B1.out)
  have HN := Sh.mk h.len
  clear h
  go_enter Try.func12, Try.ntmps12
  go_upto_region 1 with fail
  generalize (((w.alloc (.cells #[.int .i64 (most : Nat), .int .i64 (paths : Nat), .slice A n c, .int .i64 64, .int .i64 1, .int .i64 (left : Nat)] 33)).alloc (.cells #[.int .i64 x, .int .i64 y] 45)).alloc (.cells #[.int .i64 0, .int .i64 0, .slice none 0 0, .int .i64 0, .int .i64 0, .int .i64 0] 33)) = w1 at K2 K3 K4 B1 H1 ⊢
  obtain ⟨X, hX⟩ : ∃ X, X = w.heap.size := ⟨_, rfl⟩
  have HX := Sh.mk hX
  rw [← hX] at K2 K3 K4 ⊢
  clear hX z1 z2
  have AT := Lib.hid (r20_at most paths left A n c l x w1 H1.out (by omega))
  obtain ⟨c0, c1, c2, c3, c4, c5⟩ : w1.cell? ⟨X, 0, none⟩ = some (.int .i64 (most : Nat)) ∧ w1.cell? ⟨X, 1, none⟩ = some (.int .i64 (paths : Nat)) ∧ w1.cell? ⟨X, 2, none⟩ = some (.slice A n c) ∧ w1.cell? ⟨X, 3, none⟩ = some (.int .i64 64) ∧ w1.cell? ⟨X, 4, none⟩ = some (.int .i64 1) ∧ w1.cell? ⟨X, 5, none⟩ = some (.int .i64 (left : Nat)) := ⟨(K2.out.cell 0).trans rfl, (K2.out.cell 1).trans rfl, (K2.out.cell 2).trans rfl, (K2.out.cell 3).trans rfl, (K2.out.cell 4).trans rfl, (K2.out.cell 5).trans rfl⟩
  have a0 : w1.cell? ⟨X + 1, 0, none⟩ = some (.int .i64 x) := by rw [K3.out.cell]; rfl
  go_wp2_with fail
  refine AT.out.mono ?_
  rintro e w2 ⟨rfl, hb⟩
  replace K2 := Lib.hid (K2.out.below hb K2.out.lt)
  replace K3 := Lib.hid (K3.out.below hb K3.out.lt)
  replace K4 := Lib.hid (K4.out.below hb K4.out.lt)
  replace H1 := Lib.hid (H1.out.into hb)
  replace B1 := Lib.hid (B1.out.trans (hb.mono B1.out.size))
  clear hb AT c0 c1 c2 c3 c4 c5 a0
  rw [hpl]
  have c0 : w2.cell? ⟨X, 0, none⟩ = some (.int .i64 (most : Nat)) := by rw [K2.out.cell]; rfl
  have c1 : w2.cell? ⟨X, 1, none⟩ = some (.int .i64 (paths : Nat)) := by rw [K2.out.cell]; rfl
  have c2 : w2.cell? ⟨X, 2, none⟩ = some (.slice A n c) := by rw [K2.out.cell]; rfl
  have c5 : w2.cell? ⟨X, 5, none⟩ = some (.int .i64 (left : Nat)) := by rw [K2.out.cell]; rfl
  have a0 : w2.cell? ⟨X + 1, 0, none⟩ = some (.int .i64 x) := by rw [K3.out.cell]; rfl
  have a1 : w2.cell? ⟨X + 1, 1, none⟩ = some (.int .i64 y) := by rw [K3.out.cell]; rfl
  go_upto_region 2 with fail
  have hkl : k < l.length := (List.getElem?_eq_some_iff.1 hka).1
  have d0 : decide (x < 0) = false := decide_eq_false (by omega)
  have f0 : ¬ (x < 0) := by omega
  have d1 : decide (255 < x) = false := decide_eq_false (by omega)
  have f1 : ¬ (255 < x) := by omega
  have d2 : decide (y < 0) = false := decide_eq_false (by omega)
  have f2 : ¬ (y < 0) := by omega
  have d3 : decide ((paths : Int) ≤ y) = false := decide_eq_false (by omega)
  have f3 : ¬ ((paths : Int) ≤ y) := by omega
  have hkn : (k : Int) < (n : Int) := by have := HN.out; omega
  have hk0 : (0 : Int) ≤ (k : Int) := by omega
  have hkd : decide ((0 : Int) ≤ (k : Int)) = true := decide_eq_true hk0
  have hkf : ¬ (k : Int) < 0 := by omega
  have hkg : decide ((k : Int) < 0) = false := decide_eq_false hkf
  obtain ⟨rb, off, x3, y3, rfl, hrb, hx3, hy3, HX3⟩ := H1.out.rd.pz (show k < n by have := HN.out; omega)
  have LE := Lib.hid (show ∀ j v, [Value.int .i64 x3, .int .i64 y3][j]? = some v → w2.cell? ⟨rb, off + k * 2 + j, none⟩ = some v from fun j v hj => by
    match j, hj with
    | 0, hj => exact hx3.trans hj
    | 1, hj => exact hy3.trans hj)
  clear hx3 hy3
  have EQ := ra_eq x3 y3 x y
  rw [decide_eq_true (show (x3, y3) = (x, y) by have := HX3.out; rw [hka] at this; injection this with this; exact this.symm)] at EQ
  clear hka hkl
  refine wp_ext (by kernel_rfl) (by kernel_rfl) (fun QQ hQ => ?_)
  iterate 28 (first | (refine x_skip (by rfl) ?_; simp only [Act.put, List.setIfInBounds_toArray, List.set_cons_zero, List.set_cons_succ]) | (first | (refine x_load _ (by rfl) rfl rfl (by assumption) (by kernel_rfl) ?_; simp only [Act.put, List.setIfInBounds_toArray, List.set_cons_zero, List.set_cons_succ]) | (refine x_val (v := ?_) (by rfl) (fun w' hx => ?_) ?_; rotate_left; (focus (go_simp; (try with_reducible rfl))); (try simp only [Act.put, List.setIfInBounds_toArray, List.set_cons_zero, List.set_cons_succ]))))
  refine x_loads _ [.int .i64 x3, .int .i64 y3] (by rfl) rfl rfl (LE.out) (Nat.succ_pos _) (by kernel_rfl) (by kernel_rfl) ?_; simp only [Act.put, List.setIfInBounds_toArray, List.set_cons_zero, List.set_cons_succ]
  refine x_loads _ [.int .i64 x, .int .i64 y] (by rfl) rfl rfl (K3.out.loads 0 _ (by rfl)) (Nat.succ_pos _) (by kernel_rfl) (by kernel_rfl) ?_; simp only [Act.put, List.setIfInBounds_toArray, List.set_cons_zero, List.set_cons_succ]
  iterate 21 (first | (refine x_skip (by rfl) ?_; simp only [Act.put, List.setIfInBounds_toArray, List.set_cons_zero, List.set_cons_succ]) | (first | (refine x_load _ (by rfl) rfl rfl (by assumption) (by kernel_rfl) ?_; simp only [Act.put, List.setIfInBounds_toArray, List.set_cons_zero, List.set_cons_succ]) | (refine x_val (v := ?_) (by rfl) (fun w' hx => ?_) ?_; rotate_left; (focus (go_simp; (try with_reducible rfl))); (try simp only [Act.put, List.setIfInBounds_toArray, List.set_cons_zero, List.set_cons_succ]))))
  refine x_nil (hQ.out _ ?_); clear hQ QQ
  intro w3 hb
  replace K2 := Lib.hid (K2.out.below hb K2.out.lt)
  replace K3 := Lib.hid (K3.out.below hb K3.out.lt)
  replace K4 := Lib.hid (K4.out.below hb K4.out.lt)
  replace H1 := Lib.hid (H1.out.into hb)
  replace B1 := Lib.hid (B1.out.trans (hb.mono B1.out.size))
  clear hb c0 c1 c2 c5 a0 a1
  clear EQ LE HX3
  obtain ⟨c0, c1, c2, c3, c4, c5⟩ : w3.cell? ⟨X, 0, none⟩ = some (.int .i64 (most : Nat)) ∧ w3.cell? ⟨X, 1, none⟩ = some (.int .i64 (paths : Nat)) ∧ w3.cell? ⟨X, 2, none⟩ = some (.slice (some ⟨rb, off, none⟩) n c) ∧ w3.cell? ⟨X, 3, none⟩ = some (.int .i64 64) ∧ w3.cell? ⟨X, 4, none⟩ = some (.int .i64 1) ∧ w3.cell? ⟨X, 5, none⟩ = some (.int .i64 (left : Nat)) := ⟨(K2.out.cell 0).trans rfl, (K2.out.cell 1).trans rfl, (K2.out.cell 2).trans rfl, (K2.out.cell 3).trans rfl, (K2.out.cell 4).trans rfl, (K2.out.cell 5).trans rfl⟩
  go_wp2_with (refine stm_store (cs' := #[.int .i64 (most : Nat), .int .i64 (paths : Nat), .slice (some ⟨rb, off, none⟩) n c, .int .i64 64, .int .i64 1, .int .i64 (left : Nat)]) K4.out rfl _ _ rfl rfl rfl (by simp) (by kernel_rfl) (by simp [Value.oneCell']) (by simp [setL]) fun w9 hk hs => ?_)
  obtain ⟨q0, q1, q2, q3, q4, q5⟩ : w9.cell? ⟨X + 2, 0, none⟩ = some (.int .i64 (most : Nat)) ∧ w9.cell? ⟨X + 2, 1, none⟩ = some (.int .i64 (paths : Nat)) ∧ w9.cell? ⟨X + 2, 2, none⟩ = some (.slice (some ⟨rb, off, none⟩) n c) ∧ w9.cell? ⟨X + 2, 3, none⟩ = some (.int .i64 64) ∧ w9.cell? ⟨X + 2, 4, none⟩ = some (.int .i64 1) ∧ w9.cell? ⟨X + 2, 5, none⟩ = some (.int .i64 (left : Nat)) := ⟨(hk.cell 0).trans rfl, (hk.cell 1).trans rfl, (hk.cell 2).trans rfl, (hk.cell 3).trans rfl, (hk.cell 4).trans rfl, (hk.cell 5).trans rfl⟩
  refine bodyPost_ret (v := .tuple #[.agg #[.int .i64 (most : Nat), .int .i64 (paths : Nat), .slice (some ⟨rb, off, none⟩) n c, .int .i64 64, .int .i64 1, .int .i64 (left : Nat)], .bool false]) (by simp [results, Try.results12, go_sem, q0, q1, q2, q3, q4, q5]) rfl ?_
  exact ⟨_, _, _, rfl, H1.out.solo K4.out (by decide) hs, B1.out.trans (hs.1.mono (by have := HX.out; omega))⟩
set_option maxRecDepth 20000 in
set_option maxHeartbeats 4000000 in
theorem r20_addD (most paths left : Nat) (A : Option Addr) (n c : Nat) (l : List (Int × Int)) (x y : Int) (w : World) (h : RX w A n c l) (hl : n ≤ most) (h8 : most ≤ 8) (h64 : left ≤ 64) (g0 : 0 ≤ x) (g1 : x ≤ 255) (g2 : 0 ≤ y) (g3 : y < (paths : Int)) (k : Nat) (hpl : plI l x = (k : Int)) (hkl : k < l.length) (hkn2 : ¬ l[k]? = some (x, y)) (hlow : left < 16) :
    Calls Try.prog 12 #[.agg #[.int .i64 (most : Nat), .int .i64 (paths : Nat), .slice A n c, .int .i64 64, .int .i64 1, .int .i64 (left : Nat)], .agg #[.int .i64 x, .int .i64 y]] w fun e w' => ∃ A' n' c', e = .returned (.tuple #[.agg #[.int .i64 (most : Nat), .int .i64 (paths : Nat), .slice A' n' c', .int .i64 64, .int .i64 1, .int .i64 (left : Nat)], .bool false]) ∧ RX w' A' n' c' (l) ∧ Below w.heap.size w w' := by
  have z1 : (w.alloc (.cells #[.int .i64 (most : Nat), .int .i64 (paths : Nat), .slice A n c, .int .i64 64, .int .i64 1, .int .i64 (left : Nat)] 33)).heap.size = w.heap.size + 1 := by simp
  have z2 : ((w.alloc (.cells #[.int .i64 (most : Nat), .int .i64 (paths : Nat), .slice A n c, .int .i64 64, .int .i64 1, .int .i64 (left : Nat)] 33)).alloc (.cells #[.int .i64 x, .int .i64 y] 45)).heap.size = w.heap.size + 2 := by simp
  have K2 := Lib.hid (((Blk.new w 33 #[.int .i64 (most : Nat), .int .i64 (paths : Nat), .slice A n c, .int .i64 64, .int .i64 1, .int .i64 (left : Nat)]).alloc (.cells #[.int .i64 x, .int .i64 y] 45)).alloc (.cells #[.int .i64 0, .int .i64 0, .slice none 0 0, .int .i64 0, .int .i64 0, .int .i64 0] 33))
  have K3 := Lib.hid ((Blk.new (w.alloc (.cells #[.int .i64 (most : Nat), .int .i64 (paths : Nat), .slice A n c, .int .i64 64, .int .i64 1, .int .i64 (left : Nat)] 33)) 45 #[.int .i64 x, .int .i64 y]).alloc (.cells #[.int .i64 0, .int .i64 0, .slice none 0 0, .int .i64 0, .int .i64 0, .int .i64 0] 33))
  have K4 := Lib.hid (Blk.new ((w.alloc (.cells #[.int .i64 (most : Nat), .int .i64 (paths : Nat), .slice A n c, .int .i64 64, .int .i64 1, .int .i64 (left : Nat)] 33)).alloc (.cells #[.int .i64 x, .int .i64 y] 45)) 33 #[.int .i64 0, .int .i64 0, .slice none 0 0, .int .i64 0, .int .i64 0, .int .i64 0])
  have B1 := Lib.hid ((((Below.refl w.heap.size w).alloc (Nat.le_refl _) (.cells #[.int .i64 (most : Nat), .int .i64 (paths : Nat), .slice A n c, .int .i64 64, .int .i64 1, .int .i64 (left : Nat)] 33)).alloc (by simp) (.cells #[.int .i64 x, .int .i64 y] 45)).alloc (by simp; omega) (.cells #[.int .i64 0, .int .i64 0, .slice none 0 0, .int .i64 0, .int .i64 0, .int .i64 0] 33))
  rw [z1] at K3
  rw [z2] at K4
  have H1 := Lib.hid (h.into B1.out)
  have HN := Sh.mk h.len
  clear h
  go_enter Try.func12, Try.ntmps12
  go_upto_region 1 with fail
  generalize (((w.alloc (.cells #[.int .i64 (most : Nat), .int .i64 (paths : Nat), .slice A n c, .int .i64 64, .int .i64 1, .int .i64 (left : Nat)] 33)).alloc (.cells #[.int .i64 x, .int .i64 y] 45)).alloc (.cells #[.int .i64 0, .int .i64 0, .slice none 0 0, .int .i64 0, .int .i64 0, .int .i64 0] 33)) = w1 at K2 K3 K4 B1 H1 ⊢
  obtain ⟨X, hX⟩ : ∃ X, X = w.heap.size := ⟨_, rfl⟩
  have HX := Sh.mk hX
  rw [← hX] at K2 K3 K4 ⊢
  clear hX z1 z2
  have AT := Lib.hid (r20_at most paths left A n c l x w1 H1.out (by omega))
  obtain ⟨c0, c1, c2, c3, c4, c5⟩ : w1.cell? ⟨X, 0, none⟩ = some (.int .i64 (most : Nat)) ∧ w1.cell? ⟨X, 1, none⟩ = some (.int .i64 (paths : Nat)) ∧ w1.cell? ⟨X, 2, none⟩ = some (.slice A n c) ∧ w1.cell? ⟨X, 3, none⟩ = some (.int .i64 64) ∧ w1.cell? ⟨X, 4, none⟩ = some (.int .i64 1) ∧ w1.cell? ⟨X, 5, none⟩ = some (.int .i64 (left : Nat)) := ⟨(K2.out.cell 0).trans rfl, (K2.out.cell 1).trans rfl, (K2.out.cell 2).trans rfl, (K2.out.cell 3).trans rfl, (K2.out.cell 4).trans rfl, (K2.out.cell 5).trans rfl⟩
  have a0 : w1.cell? ⟨X + 1, 0, none⟩ = some (.int .i64 x) := by rw [K3.out.cell]; rfl
  go_wp2_with fail
  refine AT.out.mono ?_
  rintro e w2 ⟨rfl, hb⟩
  replace K2 := Lib.hid (K2.out.below hb K2.out.lt)
  replace K3 := Lib.hid (K3.out.below hb K3.out.lt)
  replace K4 := Lib.hid (K4.out.below hb K4.out.lt)
  replace H1 := Lib.hid (H1.out.into hb)
  replace B1 := Lib.hid (B1.out.trans (hb.mono B1.out.size))
  clear hb AT c0 c1 c2 c3 c4 c5 a0
  rw [hpl]
  have c0 : w2.cell? ⟨X, 0, none⟩ = some (.int .i64 (most : Nat)) := by rw [K2.out.cell]; rfl
  have c1 : w2.cell? ⟨X, 1, none⟩ = some (.int .i64 (paths : Nat)) := by rw [K2.out.cell]; rfl
  have c2 : w2.cell? ⟨X, 2, none⟩ = some (.slice A n c) := by rw [K2.out.cell]; rfl
  have c5 : w2.cell? ⟨X, 5, none⟩ = some (.int .i64 (left : Nat)) := by rw [K2.out.cell]; rfl
  have a0 : w2.cell? ⟨X + 1, 0, none⟩ = some (.int .i64 x) := by rw [K3.out.cell]; rfl
  have a1 : w2.cell? ⟨X + 1, 1, none⟩ = some (.int .i64 y) := by rw [K3.out.cell]; rfl
  go_upto_region 2 with fail
  have d0 : decide (x < 0) = false := decide_eq_false (by omega)
  have f0 : ¬ (x < 0) := by omega
  have d1 : decide (255 < x) = false := decide_eq_false (by omega)
  have f1 : ¬ (255 < x) := by omega
  have d2 : decide (y < 0) = false := decide_eq_false (by omega)
  have f2 : ¬ (y < 0) := by omega
  have d3 : decide ((paths : Int) ≤ y) = false := decide_eq_false (by omega)
  have f3 : ¬ ((paths : Int) ≤ y) := by omega
  have hkn : (k : Int) < (n : Int) := by have := HN.out; omega
  have hk0 : (0 : Int) ≤ (k : Int) := by omega
  have hkd : decide ((0 : Int) ≤ (k : Int)) = true := decide_eq_true hk0
  have hkf : ¬ (k : Int) < 0 := by omega
  have hkg : decide ((k : Int) < 0) = false := decide_eq_false hkf
  obtain ⟨rb, off, x3, y3, rfl, hrb, hx3, hy3, HX3⟩ := H1.out.rd.pz (show k < n by have := HN.out; omega)
  have LE := Lib.hid (show ∀ j v, [Value.int .i64 x3, .int .i64 y3][j]? = some v → w2.cell? ⟨rb, off + k * 2 + j, none⟩ = some v from fun j v hj => by
    match j, hj with
    | 0, hj => exact hx3.trans hj
    | 1, hj => exact hy3.trans hj)
  clear hx3 hy3
  have EQ := ra_eq x3 y3 x y
  rw [decide_eq_false (show ¬ (x3, y3) = (x, y) from fun e => hkn2 (by have := HX3.out; rw [e] at this; exact this))] at EQ
  have hlo : (left : Int) < 16 := by omega
  have hld : decide ((left : Int) < 16) = true := decide_eq_true hlo
  have hln : decide (left < 16) = true := decide_eq_true hlow
  clear hkn2 hkl
  refine wp_ext (by kernel_rfl) (by kernel_rfl) (fun QQ hQ => ?_)
  iterate 28 (first | (refine x_skip (by rfl) ?_; simp only [Act.put, List.setIfInBounds_toArray, List.set_cons_zero, List.set_cons_succ]) | (first | (refine x_load _ (by rfl) rfl rfl (by assumption) (by kernel_rfl) ?_; simp only [Act.put, List.setIfInBounds_toArray, List.set_cons_zero, List.set_cons_succ]) | (refine x_val (v := ?_) (by rfl) (fun w' hx => ?_) ?_; rotate_left; (focus (go_simp; (try with_reducible rfl))); (try simp only [Act.put, List.setIfInBounds_toArray, List.set_cons_zero, List.set_cons_succ]))))
  refine x_loads _ [.int .i64 x3, .int .i64 y3] (by rfl) rfl rfl (LE.out) (Nat.succ_pos _) (by kernel_rfl) (by kernel_rfl) ?_; simp only [Act.put, List.setIfInBounds_toArray, List.set_cons_zero, List.set_cons_succ]
  refine x_loads _ [.int .i64 x, .int .i64 y] (by rfl) rfl rfl (K3.out.loads 0 _ (by rfl)) (Nat.succ_pos _) (by kernel_rfl) (by kernel_rfl) ?_; simp only [Act.put, List.setIfInBounds_toArray, List.set_cons_zero, List.set_cons_succ]
  iterate 21 (first | (refine x_skip (by rfl) ?_; simp only [Act.put, List.setIfInBounds_toArray, List.set_cons_zero, List.set_cons_succ]) | (first | (refine x_load _ (by rfl) rfl rfl (by assumption) (by kernel_rfl) ?_; simp only [Act.put, List.setIfInBounds_toArray, List.set_cons_zero, List.set_cons_succ]) | (refine x_val (v := ?_) (by rfl) (fun w' hx => ?_) ?_; rotate_left; (focus (go_simp; (try with_reducible rfl))); (try simp only [Act.put, List.setIfInBounds_toArray, List.set_cons_zero, List.set_cons_succ]))))
  refine x_nil (hQ.out _ ?_); clear hQ QQ
  intro w3 hb
  replace K2 := Lib.hid (K2.out.below hb K2.out.lt)
  replace K3 := Lib.hid (K3.out.below hb K3.out.lt)
  replace K4 := Lib.hid (K4.out.below hb K4.out.lt)
  replace H1 := Lib.hid (H1.out.into hb)
  replace B1 := Lib.hid (B1.out.trans (hb.mono B1.out.size))
  clear hb c0 c1 c2 c5 a0 a1
  clear EQ LE HX3
  obtain ⟨c0, c1, c2, c3, c4, c5⟩ : w3.cell? ⟨X, 0, none⟩ = some (.int .i64 (most : Nat)) ∧ w3.cell? ⟨X, 1, none⟩ = some (.int .i64 (paths : Nat)) ∧ w3.cell? ⟨X, 2, none⟩ = some (.slice (some ⟨rb, off, none⟩) n c) ∧ w3.cell? ⟨X, 3, none⟩ = some (.int .i64 64) ∧ w3.cell? ⟨X, 4, none⟩ = some (.int .i64 1) ∧ w3.cell? ⟨X, 5, none⟩ = some (.int .i64 (left : Nat)) := ⟨(K2.out.cell 0).trans rfl, (K2.out.cell 1).trans rfl, (K2.out.cell 2).trans rfl, (K2.out.cell 3).trans rfl, (K2.out.cell 4).trans rfl, (K2.out.cell 5).trans rfl⟩
  go_wp2_with (refine stm_store (cs' := #[.int .i64 (most : Nat), .int .i64 (paths : Nat), .slice (some ⟨rb, off, none⟩) n c, .int .i64 64, .int .i64 1, .int .i64 (left : Nat)]) K4.out rfl _ _ rfl rfl rfl (by simp) (by kernel_rfl) (by simp [Value.oneCell']) (by simp [setL]) fun w9 hk hs => ?_)
  obtain ⟨q0, q1, q2, q3, q4, q5⟩ : w9.cell? ⟨X + 2, 0, none⟩ = some (.int .i64 (most : Nat)) ∧ w9.cell? ⟨X + 2, 1, none⟩ = some (.int .i64 (paths : Nat)) ∧ w9.cell? ⟨X + 2, 2, none⟩ = some (.slice (some ⟨rb, off, none⟩) n c) ∧ w9.cell? ⟨X + 2, 3, none⟩ = some (.int .i64 64) ∧ w9.cell? ⟨X + 2, 4, none⟩ = some (.int .i64 1) ∧ w9.cell? ⟨X + 2, 5, none⟩ = some (.int .i64 (left : Nat)) := ⟨(hk.cell 0).trans rfl, (hk.cell 1).trans rfl, (hk.cell 2).trans rfl, (hk.cell 3).trans rfl, (hk.cell 4).trans rfl, (hk.cell 5).trans rfl⟩
  refine bodyPost_ret (v := .tuple #[.agg #[.int .i64 (most : Nat), .int .i64 (paths : Nat), .slice (some ⟨rb, off, none⟩) n c, .int .i64 64, .int .i64 1, .int .i64 (left : Nat)], .bool false]) (by simp [results, Try.results12, go_sem, q0, q1, q2, q3, q4, q5]) rfl ?_
  exact ⟨_, _, _, rfl, H1.out.solo K4.out (by decide) hs, B1.out.trans (hs.1.mono (by have := HX.out; omega))⟩
set_option maxRecDepth 20000 in
set_option maxHeartbeats 4000000 in
theorem r20_addC (most paths left : Nat) (A : Option Addr) (n c : Nat) (l : List (Int × Int)) (x y : Int) (w : World) (h : RX w A n c l) (hl : n ≤ most) (h8 : most ≤ 8) (h64 : left ≤ 64) (g0 : 0 ≤ x) (g1 : x ≤ 255) (g2 : 0 ≤ y) (g3 : y < (paths : Int)) (hpl : plI l x = -1) (hf : n = most) :
    Calls Try.prog 12 #[.agg #[.int .i64 (most : Nat), .int .i64 (paths : Nat), .slice A n c, .int .i64 64, .int .i64 1, .int .i64 (left : Nat)], .agg #[.int .i64 x, .int .i64 y]] w fun e w' => ∃ A' n' c', e = .returned (.tuple #[.agg #[.int .i64 (most : Nat), .int .i64 (paths : Nat), .slice A' n' c', .int .i64 64, .int .i64 1, .int .i64 (left : Nat)], .bool false]) ∧ RX w' A' n' c' (l) ∧ Below w.heap.size w w' := by
  have HF := Sh.mk hf
  clear hf
  have z1 : (w.alloc (.cells #[.int .i64 (most : Nat), .int .i64 (paths : Nat), .slice A n c, .int .i64 64, .int .i64 1, .int .i64 (left : Nat)] 33)).heap.size = w.heap.size + 1 := by simp
  have z2 : ((w.alloc (.cells #[.int .i64 (most : Nat), .int .i64 (paths : Nat), .slice A n c, .int .i64 64, .int .i64 1, .int .i64 (left : Nat)] 33)).alloc (.cells #[.int .i64 x, .int .i64 y] 45)).heap.size = w.heap.size + 2 := by simp
  have K2 := Lib.hid (((Blk.new w 33 #[.int .i64 (most : Nat), .int .i64 (paths : Nat), .slice A n c, .int .i64 64, .int .i64 1, .int .i64 (left : Nat)]).alloc (.cells #[.int .i64 x, .int .i64 y] 45)).alloc (.cells #[.int .i64 0, .int .i64 0, .slice none 0 0, .int .i64 0, .int .i64 0, .int .i64 0] 33))
  have K3 := Lib.hid ((Blk.new (w.alloc (.cells #[.int .i64 (most : Nat), .int .i64 (paths : Nat), .slice A n c, .int .i64 64, .int .i64 1, .int .i64 (left : Nat)] 33)) 45 #[.int .i64 x, .int .i64 y]).alloc (.cells #[.int .i64 0, .int .i64 0, .slice none 0 0, .int .i64 0, .int .i64 0, .int .i64 0] 33))
  have K4 := Lib.hid (Blk.new ((w.alloc (.cells #[.int .i64 (most : Nat), .int .i64 (paths : Nat), .slice A n c, .int .i64 64, .int .i64 1, .int .i64 (left : Nat)] 33)).alloc (.cells #[.int .i64 x, .int .i64 y] 45)) 33 #[.int .i64 0, .int .i64 0, .slice none 0 0, .int .i64 0, .int .i64 0, .int .i64 0])
  have B1 := Lib.hid ((((Below.refl w.heap.size w).alloc (Nat.le_refl _) (.cells #[.int .i64 (most : Nat), .int .i64 (paths : Nat), .slice A n c, .int .i64 64, .int .i64 1, .int .i64 (left : Nat)] 33)).alloc (by simp) (.cells #[.int .i64 x, .int .i64 y] 45)).alloc (by simp; omega) (.cells #[.int .i64 0, .int .i64 0, .slice none 0 0, .int .i64 0, .int .i64 0, .int .i64 0] 33))
  rw [z1] at K3
  rw [z2] at K4
  have H1 := Lib.hid (h.into B1.out)
  have HN := Sh.mk h.len
  clear h
  go_enter Try.func12, Try.ntmps12
  go_upto_region 1 with fail
  generalize (((w.alloc (.cells #[.int .i64 (most : Nat), .int .i64 (paths : Nat), .slice A n c, .int .i64 64, .int .i64 1, .int .i64 (left : Nat)] 33)).alloc (.cells #[.int .i64 x, .int .i64 y] 45)).alloc (.cells #[.int .i64 0, .int .i64 0, .slice none 0 0, .int .i64 0, .int .i64 0, .int .i64 0] 33)) = w1 at K2 K3 K4 B1 H1 ⊢
  obtain ⟨X, hX⟩ : ∃ X, X = w.heap.size := ⟨_, rfl⟩
  have HX := Sh.mk hX
  rw [← hX] at K2 K3 K4 ⊢
  clear hX z1 z2
  have AT := Lib.hid (r20_at most paths left A n c l x w1 H1.out (by omega))
  obtain ⟨c0, c1, c2, c3, c4, c5⟩ : w1.cell? ⟨X, 0, none⟩ = some (.int .i64 (most : Nat)) ∧ w1.cell? ⟨X, 1, none⟩ = some (.int .i64 (paths : Nat)) ∧ w1.cell? ⟨X, 2, none⟩ = some (.slice A n c) ∧ w1.cell? ⟨X, 3, none⟩ = some (.int .i64 64) ∧ w1.cell? ⟨X, 4, none⟩ = some (.int .i64 1) ∧ w1.cell? ⟨X, 5, none⟩ = some (.int .i64 (left : Nat)) := ⟨(K2.out.cell 0).trans rfl, (K2.out.cell 1).trans rfl, (K2.out.cell 2).trans rfl, (K2.out.cell 3).trans rfl, (K2.out.cell 4).trans rfl, (K2.out.cell 5).trans rfl⟩
  have a0 : w1.cell? ⟨X + 1, 0, none⟩ = some (.int .i64 x) := by rw [K3.out.cell]; rfl
  go_wp2_with fail
  refine AT.out.mono ?_
  rintro e w2 ⟨rfl, hb⟩
  replace K2 := Lib.hid (K2.out.below hb K2.out.lt)
  replace K3 := Lib.hid (K3.out.below hb K3.out.lt)
  replace K4 := Lib.hid (K4.out.below hb K4.out.lt)
  replace H1 := Lib.hid (H1.out.into hb)
  replace B1 := Lib.hid (B1.out.trans (hb.mono B1.out.size))
  clear hb AT c0 c1 c2 c3 c4 c5 a0
  rw [hpl]
  have c0 : w2.cell? ⟨X, 0, none⟩ = some (.int .i64 (most : Nat)) := by rw [K2.out.cell]; rfl
  have c1 : w2.cell? ⟨X, 1, none⟩ = some (.int .i64 (paths : Nat)) := by rw [K2.out.cell]; rfl
  have c2 : w2.cell? ⟨X, 2, none⟩ = some (.slice A n c) := by rw [K2.out.cell]; rfl
  have c5 : w2.cell? ⟨X, 5, none⟩ = some (.int .i64 (left : Nat)) := by rw [K2.out.cell]; rfl
  have a0 : w2.cell? ⟨X + 1, 0, none⟩ = some (.int .i64 x) := by rw [K3.out.cell]; rfl
  have a1 : w2.cell? ⟨X + 1, 1, none⟩ = some (.int .i64 y) := by rw [K3.out.cell]; rfl
  go_upto_region 2 with fail
  have d0 : decide (x < 0) = false := decide_eq_false (by omega)
  have f0 : ¬ (x < 0) := by omega
  have d1 : decide (255 < x) = false := decide_eq_false (by omega)
  have f1 : ¬ (255 < x) := by omega
  have d2 : decide (y < 0) = false := decide_eq_false (by omega)
  have f2 : ¬ (y < 0) := by omega
  have d3 : decide ((paths : Int) ≤ y) = false := decide_eq_false (by omega)
  have f3 : ¬ ((paths : Int) ≤ y) := by omega
  have hf := HF.out
  subst hf
  refine wp_ext (by kernel_rfl) (by kernel_rfl) (fun QQ hQ => ?_)
  iterate 51 (first | (refine x_skip (by rfl) ?_; simp only [Act.put, List.setIfInBounds_toArray, List.set_cons_zero, List.set_cons_succ]) | (first | (refine x_load _ (by rfl) rfl rfl (by assumption) (by kernel_rfl) ?_; simp only [Act.put, List.setIfInBounds_toArray, List.set_cons_zero, List.set_cons_succ]) | (refine x_val (v := ?_) (by rfl) (fun w' hx => ?_) ?_; rotate_left; (focus (go_simp; (try with_reducible rfl))); (try simp only [Act.put, List.setIfInBounds_toArray, List.set_cons_zero, List.set_cons_succ]))))
  refine x_nil (hQ.out _ ?_); clear hQ QQ
  intro w3 hb
  replace K2 := Lib.hid (K2.out.below hb K2.out.lt)
  replace K3 := Lib.hid (K3.out.below hb K3.out.lt)
  replace K4 := Lib.hid (K4.out.below hb K4.out.lt)
  replace H1 := Lib.hid (H1.out.into hb)
  replace B1 := Lib.hid (B1.out.trans (hb.mono B1.out.size))
  clear hb c0 c1 c2 c5 a0 a1
  obtain ⟨c0, c1, c2, c3, c4, c5⟩ : w3.cell? ⟨X, 0, none⟩ = some (.int .i64 (n : Nat)) ∧ w3.cell? ⟨X, 1, none⟩ = some (.int .i64 (paths : Nat)) ∧ w3.cell? ⟨X, 2, none⟩ = some (.slice A n c) ∧ w3.cell? ⟨X, 3, none⟩ = some (.int .i64 64) ∧ w3.cell? ⟨X, 4, none⟩ = some (.int .i64 1) ∧ w3.cell? ⟨X, 5, none⟩ = some (.int .i64 (left : Nat)) := ⟨(K2.out.cell 0).trans rfl, (K2.out.cell 1).trans rfl, (K2.out.cell 2).trans rfl, (K2.out.cell 3).trans rfl, (K2.out.cell 4).trans rfl, (K2.out.cell 5).trans rfl⟩
  go_wp2_with (refine stm_store (cs' := #[.int .i64 (n : Nat), .int .i64 (paths : Nat), .slice A n c, .int .i64 64, .int .i64 1, .int .i64 (left : Nat)]) K4.out rfl _ _ rfl rfl rfl (by simp) (by kernel_rfl) (by simp [Value.oneCell']) (by simp [setL]) fun w9 hk hs => ?_)
  obtain ⟨q0, q1, q2, q3, q4, q5⟩ : w9.cell? ⟨X + 2, 0, none⟩ = some (.int .i64 (n : Nat)) ∧ w9.cell? ⟨X + 2, 1, none⟩ = some (.int .i64 (paths : Nat)) ∧ w9.cell? ⟨X + 2, 2, none⟩ = some (.slice A n c) ∧ w9.cell? ⟨X + 2, 3, none⟩ = some (.int .i64 64) ∧ w9.cell? ⟨X + 2, 4, none⟩ = some (.int .i64 1) ∧ w9.cell? ⟨X + 2, 5, none⟩ = some (.int .i64 (left : Nat)) := ⟨(hk.cell 0).trans rfl, (hk.cell 1).trans rfl, (hk.cell 2).trans rfl, (hk.cell 3).trans rfl, (hk.cell 4).trans rfl, (hk.cell 5).trans rfl⟩
  refine bodyPost_ret (v := .tuple #[.agg #[.int .i64 (n : Nat), .int .i64 (paths : Nat), .slice A n c, .int .i64 64, .int .i64 1, .int .i64 (left : Nat)], .bool false]) (by simp [results, Try.results12, go_sem, q0, q1, q2, q3, q4, q5]) rfl ?_
  exact ⟨_, _, _, rfl, H1.out.solo K4.out (by decide) hs, B1.out.trans (hs.1.mono (by have := HX.out; omega))⟩
set_option maxRecDepth 20000 in
set_option maxHeartbeats 4000000 in
theorem r20_addE (most paths left : Nat) (A : Option Addr) (n c : Nat) (l : List (Int × Int)) (x y : Int) (w : World) (h : RX w A n c l) (hl : n ≤ most) (h8 : most ≤ 8) (h64 : left ≤ 64) (g0 : 0 ≤ x) (g1 : x ≤ 255) (g2 : 0 ≤ y) (g3 : y < (paths : Int)) (hpl : plI l x = -1) (hf : ¬ n = most) (hlow : left < 16) :
    Calls Try.prog 12 #[.agg #[.int .i64 (most : Nat), .int .i64 (paths : Nat), .slice A n c, .int .i64 64, .int .i64 1, .int .i64 (left : Nat)], .agg #[.int .i64 x, .int .i64 y]] w fun e w' => ∃ A' n' c', e = .returned (.tuple #[.agg #[.int .i64 (most : Nat), .int .i64 (paths : Nat), .slice A' n' c', .int .i64 64, .int .i64 1, .int .i64 (left : Nat)], .bool false]) ∧ RX w' A' n' c' (l) ∧ Below w.heap.size w w' := by
  have z1 : (w.alloc (.cells #[.int .i64 (most : Nat), .int .i64 (paths : Nat), .slice A n c, .int .i64 64, .int .i64 1, .int .i64 (left : Nat)] 33)).heap.size = w.heap.size + 1 := by simp
  have z2 : ((w.alloc (.cells #[.int .i64 (most : Nat), .int .i64 (paths : Nat), .slice A n c, .int .i64 64, .int .i64 1, .int .i64 (left : Nat)] 33)).alloc (.cells #[.int .i64 x, .int .i64 y] 45)).heap.size = w.heap.size + 2 := by simp
  have K2 := Lib.hid (((Blk.new w 33 #[.int .i64 (most : Nat), .int .i64 (paths : Nat), .slice A n c, .int .i64 64, .int .i64 1, .int .i64 (left : Nat)]).alloc (.cells #[.int .i64 x, .int .i64 y] 45)).alloc (.cells #[.int .i64 0, .int .i64 0, .slice none 0 0, .int .i64 0, .int .i64 0, .int .i64 0] 33))
  have K3 := Lib.hid ((Blk.new (w.alloc (.cells #[.int .i64 (most : Nat), .int .i64 (paths : Nat), .slice A n c, .int .i64 64, .int .i64 1, .int .i64 (left : Nat)] 33)) 45 #[.int .i64 x, .int .i64 y]).alloc (.cells #[.int .i64 0, .int .i64 0, .slice none 0 0, .int .i64 0, .int .i64 0, .int .i64 0] 33))
  have K4 := Lib.hid (Blk.new ((w.alloc (.cells #[.int .i64 (most : Nat), .int .i64 (paths : Nat), .slice A n c, .int .i64 64, .int .i64 1, .int .i64 (left : Nat)] 33)).alloc (.cells #[.int .i64 x, .int .i64 y] 45)) 33 #[.int .i64 0, .int .i64 0, .slice none 0 0, .int .i64 0, .int .i64 0, .int .i64 0])
  have B1 := Lib.hid ((((Below.refl w.heap.size w).alloc (Nat.le_refl _) (.cells #[.int .i64 (most : Nat), .int .i64 (paths : Nat), .slice A n c, .int .i64 64, .int .i64 1, .int .i64 (left : Nat)] 33)).alloc (by simp) (.cells #[.int .i64 x, .int .i64 y] 45)).alloc (by simp; omega) (.cells #[.int .i64 0, .int .i64 0, .slice none 0 0, .int .i64 0, .int .i64 0, .int .i64 0] 33))
  rw [z1] at K3
  rw [z2] at K4
  have H1 := Lib.hid (h.into B1.out)
  have HN := Sh.mk h.len
  clear h
  go_enter Try.func12, Try.ntmps12
  go_upto_region 1 with fail
  generalize (((w.alloc (.cells #[.int .i64 (most : Nat), .int .i64 (paths : Nat), .slice A n c, .int .i64 64, .int .i64 1, .int .i64 (left : Nat)] 33)).alloc (.cells #[.int .i64 x, .int .i64 y] 45)).alloc (.cells #[.int .i64 0, .int .i64 0, .slice none 0 0, .int .i64 0, .int .i64 0, .int .i64 0] 33)) = w1 at K2 K3 K4 B1 H1 ⊢
  obtain ⟨X, hX⟩ : ∃ X, X = w.heap.size := ⟨_, rfl⟩
  have HX := Sh.mk hX
  rw [← hX] at K2 K3 K4 ⊢
  clear hX z1 z2
  have AT := Lib.hid (r20_at most paths left A n c l x w1 H1.out (by omega))
  obtain ⟨c0, c1, c2, c3, c4, c5⟩ : w1.cell? ⟨X, 0, none⟩ = some (.int .i64 (most : Nat)) ∧ w1.cell? ⟨X, 1, none⟩ = some (.int .i64 (paths : Nat)) ∧ w1.cell? ⟨X, 2, none⟩ = some (.slice A n c) ∧ w1.cell? ⟨X, 3, none⟩ = some (.int .i64 64) ∧ w1.cell? ⟨X, 4, none⟩ = some (.int .i64 1) ∧ w1.cell? ⟨X, 5, none⟩ = some (.int .i64 (left : Nat)) := ⟨(K2.out.cell 0).trans rfl, (K2.out.cell 1).trans rfl, (K2.out.cell 2).trans rfl, (K2.out.cell 3).trans rfl, (K2.out.cell 4).trans rfl, (K2.out.cell 5).trans rfl⟩
  have a0 : w1.cell? ⟨X + 1, 0, none⟩ = some (.int .i64 x) := by rw [K3.out.cell]; rfl
  go_wp2_with fail
  refine AT.out.mono ?_
  rintro e w2 ⟨rfl, hb⟩
  replace K2 := Lib.hid (K2.out.below hb K2.out.lt)
  replace K3 := Lib.hid (K3.out.below hb K3.out.lt)
  replace K4 := Lib.hid (K4.out.below hb K4.out.lt)
  replace H1 := Lib.hid (H1.out.into hb)
  replace B1 := Lib.hid (B1.out.trans (hb.mono B1.out.size))
  clear hb AT c0 c1 c2 c3 c4 c5 a0
  rw [hpl]
  have c0 : w2.cell? ⟨X, 0, none⟩ = some (.int .i64 (most : Nat)) := by rw [K2.out.cell]; rfl
  have c1 : w2.cell? ⟨X, 1, none⟩ = some (.int .i64 (paths : Nat)) := by rw [K2.out.cell]; rfl
  have c2 : w2.cell? ⟨X, 2, none⟩ = some (.slice A n c) := by rw [K2.out.cell]; rfl
  have c5 : w2.cell? ⟨X, 5, none⟩ = some (.int .i64 (left : Nat)) := by rw [K2.out.cell]; rfl
  have a0 : w2.cell? ⟨X + 1, 0, none⟩ = some (.int .i64 x) := by rw [K3.out.cell]; rfl
  have a1 : w2.cell? ⟨X + 1, 1, none⟩ = some (.int .i64 y) := by rw [K3.out.cell]; rfl
  go_upto_region 2 with fail
  have d0 : decide (x < 0) = false := decide_eq_false (by omega)
  have f0 : ¬ (x < 0) := by omega
  have d1 : decide (255 < x) = false := decide_eq_false (by omega)
  have f1 : ¬ (255 < x) := by omega
  have d2 : decide (y < 0) = false := decide_eq_false (by omega)
  have f2 : ¬ (y < 0) := by omega
  have d3 : decide ((paths : Int) ≤ y) = false := decide_eq_false (by omega)
  have f3 : ¬ ((paths : Int) ≤ y) := by omega
  have hnm : ¬ (n : Int) = (most : Int) := by omega
  have hnb : ((n : Int) == (most : Int)) = false := by rw [beq_eq_false_iff_ne]; exact hnm
  have hnc : (n == most) = false := by simpa using hf
  have hlo : (left : Int) < 16 := by omega
  have hld : decide ((left : Int) < 16) = true := decide_eq_true hlo
  have hln : decide (left < 16) = true := decide_eq_true hlow
  refine wp_ext (by kernel_rfl) (by kernel_rfl) (fun QQ hQ => ?_)
  iterate 51 (first | (refine x_skip (by rfl) ?_; simp only [Act.put, List.setIfInBounds_toArray, List.set_cons_zero, List.set_cons_succ]) | (first | (refine x_load _ (by rfl) rfl rfl (by assumption) (by kernel_rfl) ?_; simp only [Act.put, List.setIfInBounds_toArray, List.set_cons_zero, List.set_cons_succ]) | (refine x_val (v := ?_) (by rfl) (fun w' hx => ?_) ?_; rotate_left; (focus (go_simp; (try with_reducible rfl))); (try simp only [Act.put, List.setIfInBounds_toArray, List.set_cons_zero, List.set_cons_succ]))))
  refine x_nil (hQ.out _ ?_); clear hQ QQ
  intro w3 hb
  replace K2 := Lib.hid (K2.out.below hb K2.out.lt)
  replace K3 := Lib.hid (K3.out.below hb K3.out.lt)
  replace K4 := Lib.hid (K4.out.below hb K4.out.lt)
  replace H1 := Lib.hid (H1.out.into hb)
  replace B1 := Lib.hid (B1.out.trans (hb.mono B1.out.size))
  clear hb c0 c1 c2 c5 a0 a1
  obtain ⟨c0, c1, c2, c3, c4, c5⟩ : w3.cell? ⟨X, 0, none⟩ = some (.int .i64 (most : Nat)) ∧ w3.cell? ⟨X, 1, none⟩ = some (.int .i64 (paths : Nat)) ∧ w3.cell? ⟨X, 2, none⟩ = some (.slice A n c) ∧ w3.cell? ⟨X, 3, none⟩ = some (.int .i64 64) ∧ w3.cell? ⟨X, 4, none⟩ = some (.int .i64 1) ∧ w3.cell? ⟨X, 5, none⟩ = some (.int .i64 (left : Nat)) := ⟨(K2.out.cell 0).trans rfl, (K2.out.cell 1).trans rfl, (K2.out.cell 2).trans rfl, (K2.out.cell 3).trans rfl, (K2.out.cell 4).trans rfl, (K2.out.cell 5).trans rfl⟩
  go_wp2_with (refine stm_store (cs' := #[.int .i64 (most : Nat), .int .i64 (paths : Nat), .slice A n c, .int .i64 64, .int .i64 1, .int .i64 (left : Nat)]) K4.out rfl _ _ rfl rfl rfl (by simp) (by kernel_rfl) (by simp [Value.oneCell']) (by simp [setL]) fun w9 hk hs => ?_)
  obtain ⟨q0, q1, q2, q3, q4, q5⟩ : w9.cell? ⟨X + 2, 0, none⟩ = some (.int .i64 (most : Nat)) ∧ w9.cell? ⟨X + 2, 1, none⟩ = some (.int .i64 (paths : Nat)) ∧ w9.cell? ⟨X + 2, 2, none⟩ = some (.slice A n c) ∧ w9.cell? ⟨X + 2, 3, none⟩ = some (.int .i64 64) ∧ w9.cell? ⟨X + 2, 4, none⟩ = some (.int .i64 1) ∧ w9.cell? ⟨X + 2, 5, none⟩ = some (.int .i64 (left : Nat)) := ⟨(hk.cell 0).trans rfl, (hk.cell 1).trans rfl, (hk.cell 2).trans rfl, (hk.cell 3).trans rfl, (hk.cell 4).trans rfl, (hk.cell 5).trans rfl⟩
  refine bodyPost_ret (v := .tuple #[.agg #[.int .i64 (most : Nat), .int .i64 (paths : Nat), .slice A n c, .int .i64 64, .int .i64 1, .int .i64 (left : Nat)], .bool false]) (by simp [results, Try.results12, go_sem, q0, q1, q2, q3, q4, q5]) rfl ?_
  exact ⟨_, _, _, rfl, H1.out.solo K4.out (by decide) hs, B1.out.trans (hs.1.mono (by have := HX.out; omega))⟩
set_option maxRecDepth 20000 in
set_option maxHeartbeats 4000000 in
theorem r20_addF (most paths left : Nat) (A : Option Addr) (n c : Nat) (l : List (Int × Int)) (x y : Int) (w : World) (h : RX w A n c l) (hl : n ≤ most) (h8 : most ≤ 8) (h64 : left ≤ 64) (g0 : 0 ≤ x) (g1 : x ≤ 255) (g2 : 0 ≤ y) (g3 : y < (paths : Int)) (hpl : plI l x = -1) (hf : ¬ n = most) (h16 : 16 ≤ left) (left2 : Nat) (hl2 : left2 + 16 = left) :
    Calls Try.prog 12 #[.agg #[.int .i64 (most : Nat), .int .i64 (paths : Nat), .slice A n c, .int .i64 64, .int .i64 1, .int .i64 (left : Nat)], .agg #[.int .i64 x, .int .i64 y]] w fun e w' => ∃ A' n' c', e = .returned (.tuple #[.agg #[.int .i64 (most : Nat), .int .i64 (paths : Nat), .slice A' n' c', .int .i64 64, .int .i64 1, .int .i64 (left2 : Nat)], .bool true]) ∧ RX w' A' n' c' (l ++ [(x, y)]) ∧ Below w.heap.size w w' := by
  have z1 : (w.alloc (.cells #[.int .i64 (most : Nat), .int .i64 (paths : Nat), .slice A n c, .int .i64 64, .int .i64 1, .int .i64 (left : Nat)] 33)).heap.size = w.heap.size + 1 := by simp
  have z2 : ((w.alloc (.cells #[.int .i64 (most : Nat), .int .i64 (paths : Nat), .slice A n c, .int .i64 64, .int .i64 1, .int .i64 (left : Nat)] 33)).alloc (.cells #[.int .i64 x, .int .i64 y] 45)).heap.size = w.heap.size + 2 := by simp
  have K2 := Lib.hid (((Blk.new w 33 #[.int .i64 (most : Nat), .int .i64 (paths : Nat), .slice A n c, .int .i64 64, .int .i64 1, .int .i64 (left : Nat)]).alloc (.cells #[.int .i64 x, .int .i64 y] 45)).alloc (.cells #[.int .i64 0, .int .i64 0, .slice none 0 0, .int .i64 0, .int .i64 0, .int .i64 0] 33))
  have K3 := Lib.hid ((Blk.new (w.alloc (.cells #[.int .i64 (most : Nat), .int .i64 (paths : Nat), .slice A n c, .int .i64 64, .int .i64 1, .int .i64 (left : Nat)] 33)) 45 #[.int .i64 x, .int .i64 y]).alloc (.cells #[.int .i64 0, .int .i64 0, .slice none 0 0, .int .i64 0, .int .i64 0, .int .i64 0] 33))
  have K4 := Lib.hid (Blk.new ((w.alloc (.cells #[.int .i64 (most : Nat), .int .i64 (paths : Nat), .slice A n c, .int .i64 64, .int .i64 1, .int .i64 (left : Nat)] 33)).alloc (.cells #[.int .i64 x, .int .i64 y] 45)) 33 #[.int .i64 0, .int .i64 0, .slice none 0 0, .int .i64 0, .int .i64 0, .int .i64 0])
  have B1 := Lib.hid ((((Below.refl w.heap.size w).alloc (Nat.le_refl _) (.cells #[.int .i64 (most : Nat), .int .i64 (paths : Nat), .slice A n c, .int .i64 64, .int .i64 1, .int .i64 (left : Nat)] 33)).alloc (by simp) (.cells #[.int .i64 x, .int .i64 y] 45)).alloc (by simp; omega) (.cells #[.int .i64 0, .int .i64 0, .slice none 0 0, .int .i64 0, .int .i64 0, .int .i64 0] 33))
  rw [z1] at K3
  rw [z2] at K4
  have H1 := Lib.hid (h.into B1.out)
  have HN := Sh.mk h.len
  clear h
  go_enter Try.func12, Try.ntmps12
  go_upto_region 1 with fail
  generalize (((w.alloc (.cells #[.int .i64 (most : Nat), .int .i64 (paths : Nat), .slice A n c, .int .i64 64, .int .i64 1, .int .i64 (left : Nat)] 33)).alloc (.cells #[.int .i64 x, .int .i64 y] 45)).alloc (.cells #[.int .i64 0, .int .i64 0, .slice none 0 0, .int .i64 0, .int .i64 0, .int .i64 0] 33)) = w1 at K2 K3 K4 B1 H1 ⊢
  obtain ⟨X, hX⟩ : ∃ X, X = w.heap.size := ⟨_, rfl⟩
  have HX := Sh.mk hX
  rw [← hX] at K2 K3 K4 ⊢
  clear hX z1 z2
  have AT := Lib.hid (r20_at most paths left A n c l x w1 H1.out (by omega))
  obtain ⟨c0, c1, c2, c3, c4, c5⟩ : w1.cell? ⟨X, 0, none⟩ = some (.int .i64 (most : Nat)) ∧ w1.cell? ⟨X, 1, none⟩ = some (.int .i64 (paths : Nat)) ∧ w1.cell? ⟨X, 2, none⟩ = some (.slice A n c) ∧ w1.cell? ⟨X, 3, none⟩ = some (.int .i64 64) ∧ w1.cell? ⟨X, 4, none⟩ = some (.int .i64 1) ∧ w1.cell? ⟨X, 5, none⟩ = some (.int .i64 (left : Nat)) := ⟨(K2.out.cell 0).trans rfl, (K2.out.cell 1).trans rfl, (K2.out.cell 2).trans rfl, (K2.out.cell 3).trans rfl, (K2.out.cell 4).trans rfl, (K2.out.cell 5).trans rfl⟩
  have a0 : w1.cell? ⟨X + 1, 0, none⟩ = some (.int .i64 x) := by rw [K3.out.cell]; rfl
  go_wp2_with fail
  refine AT.out.mono ?_
  rintro e w2 ⟨rfl, hb⟩
  replace K2 := Lib.hid (K2.out.below hb K2.out.lt)
  replace K3 := Lib.hid (K3.out.below hb K3.out.lt)
  replace K4 := Lib.hid (K4.out.below hb K4.out.lt)
  replace H1 := Lib.hid (H1.out.into hb)
  replace B1 := Lib.hid (B1.out.trans (hb.mono B1.out.size))
  clear hb AT c0 c1 c2 c3 c4 c5 a0
  rw [hpl]
  have c0 : w2.cell? ⟨X, 0, none⟩ = some (.int .i64 (most : Nat)) := by rw [K2.out.cell]; rfl
  have c1 : w2.cell? ⟨X, 1, none⟩ = some (.int .i64 (paths : Nat)) := by rw [K2.out.cell]; rfl
  have c2 : w2.cell? ⟨X, 2, none⟩ = some (.slice A n c) := by rw [K2.out.cell]; rfl
  have c5 : w2.cell? ⟨X, 5, none⟩ = some (.int .i64 (left : Nat)) := by rw [K2.out.cell]; rfl
  have a0 : w2.cell? ⟨X + 1, 0, none⟩ = some (.int .i64 x) := by rw [K3.out.cell]; rfl
  have a1 : w2.cell? ⟨X + 1, 1, none⟩ = some (.int .i64 y) := by rw [K3.out.cell]; rfl
  go_upto_region 2 with fail
  have d0 : decide (x < 0) = false := decide_eq_false (by omega)
  have f0 : ¬ (x < 0) := by omega
  have d1 : decide (255 < x) = false := decide_eq_false (by omega)
  have f1 : ¬ (255 < x) := by omega
  have d2 : decide (y < 0) = false := decide_eq_false (by omega)
  have f2 : ¬ (y < 0) := by omega
  have d3 : decide ((paths : Int) ≤ y) = false := decide_eq_false (by omega)
  have f3 : ¬ ((paths : Int) ≤ y) := by omega
  have hnm : ¬ (n : Int) = (most : Int) := by omega
  have hnb : ((n : Int) == (most : Int)) = false := by rw [beq_eq_false_iff_ne]; exact hnm
  have hnc : (n == most) = false := by simpa using hf
  have hlo : ¬ (left : Int) < 16 := by omega
  have hld : decide ((left : Int) < 16) = false := decide_eq_false hlo
  have hln : decide (left < 16) = false := decide_eq_false (by omega)
  refine wp_ext (by kernel_rfl) (by kernel_rfl) (fun QQ hQ => ?_)
  iterate 51 (first | (refine x_skip (by rfl) ?_; simp only [Act.put, List.setIfInBounds_toArray, List.set_cons_zero, List.set_cons_succ]) | (first | (refine x_load _ (by rfl) rfl rfl (by assumption) (by kernel_rfl) ?_; simp only [Act.put, List.setIfInBounds_toArray, List.set_cons_zero, List.set_cons_succ]) | (refine x_val (v := ?_) (by rfl) (fun w' hx => ?_) ?_; rotate_left; (focus (go_simp; (try with_reducible rfl))); (try simp only [Act.put, List.setIfInBounds_toArray, List.set_cons_zero, List.set_cons_succ]))))
  refine x_nil (hQ.out _ ?_); clear hQ QQ
  intro w3 hb
  replace K2 := Lib.hid (K2.out.below hb K2.out.lt)
  replace K3 := Lib.hid (K3.out.below hb K3.out.lt)
  replace K4 := Lib.hid (K4.out.below hb K4.out.lt)
  replace H1 := Lib.hid (H1.out.into hb)
  replace B1 := Lib.hid (B1.out.trans (hb.mono B1.out.size))
  clear hb c0 c1 c2 c5 a0 a1
  clear d0 f0 d1 f1 d2 f2 d3 f3 hnm hnb hnc hlo hld hln
  have es : (left : Int) - 16 = (left2 : Int) := by omega
  have ew : IntKind.i64.wrap (left2 : Int) = (left2 : Int) := by rw [IntKind.wrap_i64]; omega
  clear hl2
  have c5 : w3.cell? ⟨X, 5, none⟩ = some (.int .i64 (left : Nat)) := by rw [K2.out.cell]; rfl
  have f5 := K2.out.frozen 5
  go_upto_region 5 with fail
  have hs : Solo X w3 (w3.setCell ⟨X, 5, none⟩ (.int .i64 (left2 : Nat))) := Solo.refl.setCell 5 _
  replace H1 := Lib.hid (H1.out.solo K2.out (by decide) hs)
  replace K2 := Lib.hid (show Blk _ _ _ #[.int .i64 (most : Nat), .int .i64 (paths : Nat), .slice A n c, .int .i64 64, .int .i64 1, .int .i64 (left2 : Nat)] from K2.out.set 5 (.int .i64 (left2 : Nat)))
  replace K3 := Lib.hid (hs.blk K3.out (by omega))
  replace K4 := Lib.hid (hs.blk K4.out (by omega))
  replace B1 := Lib.hid (B1.out.trans (hs.1.mono (by have := HX.out; omega)))
  clear hs c5 f5 es ew
  generalize w3.setCell ⟨X, 5, none⟩ (.int .i64 (left2 : Nat)) = w4 at *
  have BS := Lib.hid B1.out.size
  have hown : (w4.alloc (.cells #[] 45)).ownsRow w.heap.size 45 2 (.slice (some ⟨w4.heap.size, 0, none⟩) 0 0) 0 [] := World.ownsRow_made w4 #[] 0 BS.out (Nat.zero_le _) (by simp)
  have hb := (Below.refl w4.heap.size w4).alloc (Nat.le_refl _) (.cells #[] 45)
  have HO := Lib.hid hown
  have HR5 := Lib.hid (H1.out.rd.below hb)
  replace K2 := Lib.hid (K2.out.below hb K2.out.lt)
  replace K3 := Lib.hid (K3.out.below hb K3.out.lt)
  replace K4 := Lib.hid (K4.out.below hb K4.out.lt)
  replace B1 := Lib.hid (B1.out.trans (hb.mono B1.out.size))
  have c2 : (w4.alloc (.cells #[] 45)).cell? ⟨X, 2, none⟩ = some (.slice A n c) := by rw [K2.out.cell]; rfl
  have hroom : n * 16 ≤ room := room_ge (by omega)
  have hbw : w.heap.size ≤ (w4.alloc (.cells #[] 45)).heap.size := B1.out.size
  clear hown hb BS H1
  go_wp2_with (at_builtin; go_must (refine app0 raEl rfl _ _ rfl rfl HO.out rfl HR5.out (pz_one l) hroom hbw ?_))
  intro v5 w5 ho5 hb5
  have hz4 : (w4.alloc (.cells #[] 45)).heap.size = w4.heap.size + 1 := by simp
  rw [← hz4] at hb5
  clear hz4
  obtain ⟨A5, cc5, rfl, hnc5, _, _⟩ := own_form ho5
  have PO := Lib.hid (show Pzs w5 45 w.heap.size (.slice A5 n cc5) l by unfold Pzs; rw [HN.out]; exact ho5)
  replace K2 := Lib.hid (K2.out.below hb5 K2.out.lt)
  replace K3 := Lib.hid (K3.out.below hb5 K3.out.lt)
  replace K4 := Lib.hid (K4.out.below hb5 K4.out.lt)
  replace B1 := Lib.hid (B1.out.trans (hb5.mono B1.out.size))
  clear ho5 hb5 HO HR5 c2 hroom hbw
  have cz := K2.out.cell 2
  simp only [List.getElem?_toArray, List.getElem?_cons_zero, List.getElem?_cons_succ] at cz
  have fz := K2.out.frozen 2
  go_upto_region 6 with fail
  have hs : Solo X w5 (w5.setCell ⟨X, 2, none⟩ (.slice A5 n cc5)) := Solo.refl.setCell 2 _
  replace PO := Lib.hid (show Pzs _ _ _ _ _ from own_kept PO.out fun q hq => hs.2.2 q fun e => own_nt PO.out K2.out (by decide) (by rw [hq, e]))
  replace K2 := Lib.hid (show Blk _ _ _ #[.int .i64 (most : Nat), .int .i64 (paths : Nat), .slice A5 n cc5, .int .i64 64, .int .i64 1, .int .i64 (left2 : Nat)] from K2.out.set 2 (.slice A5 n cc5))
  replace K3 := Lib.hid (hs.blk K3.out (by omega))
  replace K4 := Lib.hid (hs.blk K4.out (by omega))
  replace B1 := Lib.hid (B1.out.trans (hs.1.mono (by have := HX.out; omega)))
  clear hs cz fz
  generalize w5.setCell ⟨X, 2, none⟩ (.slice A5 n cc5) = w6 at *
  have c2 : w6.cell? ⟨X, 2, none⟩ = some (.slice A5 n cc5) := by rw [K2.out.cell]; rfl
  have b0 : w6.cell? ⟨X + 1, 0, none⟩ = some (.int .i64 x) := by rw [K3.out.cell]; rfl
  have b1 : w6.cell? ⟨X + 1, 1, none⟩ = some (.int .i64 y) := by rw [K3.out.cell]; rfl
  have ho := PO.out
  unfold Pzs at ho
  rw [HN.out] at ho
  have HO := Lib.hid ho
  have hroom : (n + 1) * 16 ≤ room := room_ge (by omega)
  have hbw : w.heap.size ≤ w6.heap.size := B1.out.size
  clear ho
  go_wp2_with (at_builtin; go_must (refine appZ raEl #[.int .i64 x, .int .i64 y] rfl (fun u hu => pz_one [(x, y)] u hu) rfl _ _ rfl rfl HO.out rfl rfl hroom hbw ?_))
  intro v7 w7 ho7 hg7 hb7
  obtain ⟨A7, cc7, rfl, _, _, _⟩ := own_form ho7
  have PO7 := Lib.hid (show Pzs w7 45 w.heap.size (.slice A7 (n + 1) cc7) (l ++ [(x, y)]) by unfold Pzs; rw [List.length_append, HN.out, pz_append]; exact ho7)
  replace K2 := Lib.hid (show Blk _ _ _ _ from (hg7.block _ K2.out.lt fun e => own_nt HO.out K2.out (by decide) e.symm).trans K2.out)
  replace K4 := Lib.hid (show Blk _ _ _ _ from (hg7.block _ K4.out.lt fun e => own_nt HO.out K4.out (by decide) e.symm).trans K4.out)
  replace B1 := Lib.hid (B1.out.trans hb7)
  clear ho7 hg7 hb7 HO hroom hbw c2 b0 b1 PO K3
  have cz := K2.out.cell 2
  simp only [List.getElem?_toArray, List.getElem?_cons_zero, List.getElem?_cons_succ] at cz
  have fz := K2.out.frozen 2
  go_upto_region 9 with fail
  have hs : Solo X w7 (w7.setCell ⟨X, 2, none⟩ (.slice A7 (n + 1) cc7)) := Solo.refl.setCell 2 _
  replace PO7 := Lib.hid (show Pzs _ _ _ _ _ from own_kept PO7.out fun q hq => hs.2.2 q fun e => own_nt PO7.out K2.out (by decide) (by rw [hq, e]))
  replace K2 := Lib.hid (show Blk _ _ _ #[.int .i64 (most : Nat), .int .i64 (paths : Nat), .slice A7 (n + 1) cc7, .int .i64 64, .int .i64 1, .int .i64 (left2 : Nat)] from K2.out.set 2 (.slice A7 (n + 1) cc7))
  replace K4 := Lib.hid (hs.blk K4.out (by omega))
  replace B1 := Lib.hid (B1.out.trans (hs.1.mono (by have := HX.out; omega)))
  clear hs cz fz
  generalize w7.setCell ⟨X, 2, none⟩ (.slice A7 (n + 1) cc7) = w8 at *
  have RX8 := Lib.hid (RX.own PO7.out)
  obtain ⟨c0, c1, c2, c3, c4, c5⟩ : w8.cell? ⟨X, 0, none⟩ = some (.int .i64 (most : Nat)) ∧ w8.cell? ⟨X, 1, none⟩ = some (.int .i64 (paths : Nat)) ∧ w8.cell? ⟨X, 2, none⟩ = some (.slice A7 (n + 1) cc7) ∧ w8.cell? ⟨X, 3, none⟩ = some (.int .i64 64) ∧ w8.cell? ⟨X, 4, none⟩ = some (.int .i64 1) ∧ w8.cell? ⟨X, 5, none⟩ = some (.int .i64 (left2 : Nat)) := ⟨(K2.out.cell 0).trans rfl, (K2.out.cell 1).trans rfl, (K2.out.cell 2).trans rfl, (K2.out.cell 3).trans rfl, (K2.out.cell 4).trans rfl, (K2.out.cell 5).trans rfl⟩
  go_wp2_with (refine stm_store (cs' := #[.int .i64 (most : Nat), .int .i64 (paths : Nat), .slice A7 (n + 1) cc7, .int .i64 64, .int .i64 1, .int .i64 (left2 : Nat)]) K4.out rfl _ _ rfl rfl rfl (by simp) (by kernel_rfl) (by simp [Value.oneCell']) (by simp [setL]) fun w9 hk hs => ?_)
  obtain ⟨q0, q1, q2, q3, q4, q5⟩ : w9.cell? ⟨X + 2, 0, none⟩ = some (.int .i64 (most : Nat)) ∧ w9.cell? ⟨X + 2, 1, none⟩ = some (.int .i64 (paths : Nat)) ∧ w9.cell? ⟨X + 2, 2, none⟩ = some (.slice A7 (n + 1) cc7) ∧ w9.cell? ⟨X + 2, 3, none⟩ = some (.int .i64 64) ∧ w9.cell? ⟨X + 2, 4, none⟩ = some (.int .i64 1) ∧ w9.cell? ⟨X + 2, 5, none⟩ = some (.int .i64 (left2 : Nat)) := ⟨(hk.cell 0).trans rfl, (hk.cell 1).trans rfl, (hk.cell 2).trans rfl, (hk.cell 3).trans rfl, (hk.cell 4).trans rfl, (hk.cell 5).trans rfl⟩
  refine bodyPost_ret (v := .tuple #[.agg #[.int .i64 (most : Nat), .int .i64 (paths : Nat), .slice A7 (n + 1) cc7, .int .i64 64, .int .i64 1, .int .i64 (left2 : Nat)], .bool true]) (by simp [results, Try.results12, go_sem, q0, q1, q2, q3, q4, q5]) rfl ?_
  exact ⟨_, _, _, rfl, RX8.out.solo K4.out (by decide) hs, B1.out.trans (hs.1.mono (by have := HX.out; omega))⟩
set_option maxRecDepth 20000 in
set_option maxHeartbeats 4000000 in
theorem r20_addG (most paths left : Nat) (A : Option Addr) (n c : Nat) (l : List (Int × Int)) (x y : Int) (w : World) (h : RX w A n c l) (hl : n ≤ most) (h8 : most ≤ 8) (h64 : left ≤ 64) (g0 : 0 ≤ x) (g1 : x ≤ 255) (g2 : 0 ≤ y) (g3 : y < (paths : Int)) (k : Nat) (hpl : plI l x = (k : Int)) (hkl : k < l.length) (hkn2 : ¬ l[k]? = some (x, y)) (h16 : 16 ≤ left) (left2 : Nat) (hl2 : left2 + 16 = left) :
    Calls Try.prog 12 #[.agg #[.int .i64 (most : Nat), .int .i64 (paths : Nat), .slice A n c, .int .i64 64, .int .i64 1, .int .i64 (left : Nat)], .agg #[.int .i64 x, .int .i64 y]] w fun e w' => ∃ A' n' c', e = .returned (.tuple #[.agg #[.int .i64 (most : Nat), .int .i64 (paths : Nat), .slice A' n' c', .int .i64 64, .int .i64 1, .int .i64 (left2 : Nat)], .bool true]) ∧ RX w' A' n' c' (l.set k (x, y)) ∧ Below w.heap.size w w' := by
  have z1 : (w.alloc (.cells #[.int .i64 (most : Nat), .int .i64 (paths : Nat), .slice A n c, .int .i64 64, .int .i64 1, .int .i64 (left : Nat)] 33)).heap.size = w.heap.size + 1 := by simp
  have z2 : ((w.alloc (.cells #[.int .i64 (most : Nat), .int .i64 (paths : Nat), .slice A n c, .int .i64 64, .int .i64 1, .int .i64 (left : Nat)] 33)).alloc (.cells #[.int .i64 x, .int .i64 y] 45)).heap.size = w.heap.size + 2 := by simp
  have K2 := Lib.hid (((Blk.new w 33 #[.int .i64 (most : Nat), .int .i64 (paths : Nat), .slice A n c, .int .i64 64, .int .i64 1, .int .i64 (left : Nat)]).alloc (.cells #[.int .i64 x, .int .i64 y] 45)).alloc (.cells #[.int .i64 0, .int .i64 0, .slice none 0 0, .int .i64 0, .int .i64 0, .int .i64 0] 33))
  have K3 := Lib.hid ((Blk.new (w.alloc (.cells #[.int .i64 (most : Nat), .int .i64 (paths : Nat), .slice A n c, .int .i64 64, .int .i64 1, .int .i64 (left : Nat)] 33)) 45 #[.int .i64 x, .int .i64 y]).alloc (.cells #[.int .i64 0, .int .i64 0, .slice none 0 0, .int .i64 0, .int .i64 0, .int .i64 0] 33))
  have K4 := Lib.hid (Blk.new ((w.alloc (.cells #[.int .i64 (most : Nat), .int .i64 (paths : Nat), .slice A n c, .int .i64 64, .int .i64 1, .int .i64 (left : Nat)] 33)).alloc (.cells #[.int .i64 x, .int .i64 y] 45)) 33 #[.int .i64 0, .int .i64 0, .slice none 0 0, .int .i64 0, .int .i64 0, .int .i64 0])
  have B1 := Lib.hid ((((Below.refl w.heap.size w).alloc (Nat.le_refl _) (.cells #[.int .i64 (most : Nat), .int .i64 (paths : Nat), .slice A n c, .int .i64 64, .int .i64 1, .int .i64 (left : Nat)] 33)).alloc (by simp) (.cells #[.int .i64 x, .int .i64 y] 45)).alloc (by simp; omega) (.cells #[.int .i64 0, .int .i64 0, .slice none 0 0, .int .i64 0, .int .i64 0, .int .i64 0] 33))
  rw [z1] at K3
  rw [z2] at K4
  have H1 := Lib.hid (h.into B1.out)
  have HN := Sh.mk h.len
  clear h
  go_enter Try.func12, Try.ntmps12
  go_upto_region 1 with fail
  generalize (((w.alloc (.cells #[.int .i64 (most : Nat), .int .i64 (paths : Nat), .slice A n c, .int .i64 64, .int .i64 1, .int .i64 (left : Nat)] 33)).alloc (.cells #[.int .i64 x, .int .i64 y] 45)).alloc (.cells #[.int .i64 0, .int .i64 0, .slice none 0 0, .int .i64 0, .int .i64 0, .int .i64 0] 33)) = w1 at K2 K3 K4 B1 H1 ⊢
  obtain ⟨X, hX⟩ : ∃ X, X = w.heap.size := ⟨_, rfl⟩
  have HX := Sh.mk hX
  rw [← hX] at K2 K3 K4 ⊢
  clear hX z1 z2
  have AT := Lib.hid (r20_at most paths left A n c l x w1 H1.out (by omega))
  obtain ⟨c0, c1, c2, c3, c4, c5⟩ : w1.cell? ⟨X, 0, none⟩ = some (.int .i64 (most : Nat)) ∧ w1.cell? ⟨X, 1, none⟩ = some (.int .i64 (paths : Nat)) ∧ w1.cell? ⟨X, 2, none⟩ = some (.slice A n c) ∧ w1.cell? ⟨X, 3, none⟩ = some (.int .i64 64) ∧ w1.cell? ⟨X, 4, none⟩ = some (.int .i64 1) ∧ w1.cell? ⟨X, 5, none⟩ = some (.int .i64 (left : Nat)) := ⟨(K2.out.cell 0).trans rfl, (K2.out.cell 1).trans rfl, (K2.out.cell 2).trans rfl, (K2.out.cell 3).trans rfl, (K2.out.cell 4).trans rfl, (K2.out.cell 5).trans rfl⟩
  have a0 : w1.cell? ⟨X + 1, 0, none⟩ = some (.int .i64 x) := by rw [K3.out.cell]; rfl
  go_wp2_with fail
  refine AT.out.mono ?_
  rintro e w2 ⟨rfl, hb⟩
  replace K2 := Lib.hid (K2.out.below hb K2.out.lt)
  replace K3 := Lib.hid (K3.out.below hb K3.out.lt)
  replace K4 := Lib.hid (K4.out.below hb K4.out.lt)
  replace H1 := Lib.hid (H1.out.into hb)
  replace B1 := Lib.hid (B1.out.trans (hb.mono B1.out.size))
  clear hb AT c0 c1 c2 c3 c4 c5 a0
  rw [hpl]
  have c0 : w2.cell? ⟨X, 0, none⟩ = some (.int .i64 (most : Nat)) := by rw [K2.out.cell]; rfl
  have c1 : w2.cell? ⟨X, 1, none⟩ = some (.int .i64 (paths : Nat)) := by rw [K2.out.cell]; rfl
  have c2 : w2.cell? ⟨X, 2, none⟩ = some (.slice A n c) := by rw [K2.out.cell]; rfl
  have c5 : w2.cell? ⟨X, 5, none⟩ = some (.int .i64 (left : Nat)) := by rw [K2.out.cell]; rfl
  have a0 : w2.cell? ⟨X + 1, 0, none⟩ = some (.int .i64 x) := by rw [K3.out.cell]; rfl
  have a1 : w2.cell? ⟨X + 1, 1, none⟩ = some (.int .i64 y) := by rw [K3.out.cell]; rfl
  go_upto_region 2 with fail
  have d0 : decide (x < 0) = false := decide_eq_false (by omega)
  have f0 : ¬ (x < 0) := by omega
  have d1 : decide (255 < x) = false := decide_eq_false (by omega)
  have f1 : ¬ (255 < x) := by omega
  have d2 : decide (y < 0) = false := decide_eq_false (by omega)
  have f2 : ¬ (y < 0) := by omega
  have d3 : decide ((paths : Int) ≤ y) = false := decide_eq_false (by omega)
  have f3 : ¬ ((paths : Int) ≤ y) := by omega
  have hkn : (k : Int) < (n : Int) := by have := HN.out; omega
  have hk0 : (0 : Int) ≤ (k : Int) := by omega
  have hkd : decide ((0 : Int) ≤ (k : Int)) = true := decide_eq_true hk0
  have hkf : ¬ (k : Int) < 0 := by omega
  have hkg : decide ((k : Int) < 0) = false := decide_eq_false hkf
  obtain ⟨rb, off, x3, y3, rfl, hrb, hx3, hy3, HX3⟩ := H1.out.rd.pz (show k < n by have := HN.out; omega)
  have LE := Lib.hid (show ∀ j v, [Value.int .i64 x3, .int .i64 y3][j]? = some v → w2.cell? ⟨rb, off + k * 2 + j, none⟩ = some v from fun j v hj => by
    match j, hj with
    | 0, hj => exact hx3.trans hj
    | 1, hj => exact hy3.trans hj)
  clear hx3 hy3
  have EQ := ra_eq x3 y3 x y
  rw [decide_eq_false (show ¬ (x3, y3) = (x, y) from fun e => hkn2 (by have := HX3.out; rw [e] at this; exact this))] at EQ
  have hlo : ¬ (left : Int) < 16 := by omega
  have hld : decide ((left : Int) < 16) = false := decide_eq_false hlo
  have hln : decide (left < 16) = false := decide_eq_false (by omega)
  clear hkn2
  refine wp_ext (by kernel_rfl) (by kernel_rfl) (fun QQ hQ => ?_)
  iterate 28 (first | (refine x_skip (by rfl) ?_; simp only [Act.put, List.setIfInBounds_toArray, List.set_cons_zero, List.set_cons_succ]) | (first | (refine x_load _ (by rfl) rfl rfl (by assumption) (by kernel_rfl) ?_; simp only [Act.put, List.setIfInBounds_toArray, List.set_cons_zero, List.set_cons_succ]) | (refine x_val (v := ?_) (by rfl) (fun w' hx => ?_) ?_; rotate_left; (focus (go_simp; (try with_reducible rfl))); (try simp only [Act.put, List.setIfInBounds_toArray, List.set_cons_zero, List.set_cons_succ]))))
  refine x_loads _ [.int .i64 x3, .int .i64 y3] (by rfl) rfl rfl (LE.out) (Nat.succ_pos _) (by kernel_rfl) (by kernel_rfl) ?_; simp only [Act.put, List.setIfInBounds_toArray, List.set_cons_zero, List.set_cons_succ]
  refine x_loads _ [.int .i64 x, .int .i64 y] (by rfl) rfl rfl (K3.out.loads 0 _ (by rfl)) (Nat.succ_pos _) (by kernel_rfl) (by kernel_rfl) ?_; simp only [Act.put, List.setIfInBounds_toArray, List.set_cons_zero, List.set_cons_succ]
  iterate 21 (first | (refine x_skip (by rfl) ?_; simp only [Act.put, List.setIfInBounds_toArray, List.set_cons_zero, List.set_cons_succ]) | (first | (refine x_load _ (by rfl) rfl rfl (by assumption) (by kernel_rfl) ?_; simp only [Act.put, List.setIfInBounds_toArray, List.set_cons_zero, List.set_cons_succ]) | (refine x_val (v := ?_) (by rfl) (fun w' hx => ?_) ?_; rotate_left; (focus (go_simp; (try with_reducible rfl))); (try simp only [Act.put, List.setIfInBounds_toArray, List.set_cons_zero, List.set_cons_succ]))))
  refine x_nil (hQ.out _ ?_); clear hQ QQ
  intro w3 hb
  replace K2 := Lib.hid (K2.out.below hb K2.out.lt)
  replace K3 := Lib.hid (K3.out.below hb K3.out.lt)
  replace K4 := Lib.hid (K4.out.below hb K4.out.lt)
  replace H1 := Lib.hid (H1.out.into hb)
  replace B1 := Lib.hid (B1.out.trans (hb.mono B1.out.size))
  clear hb c0 c1 c2 c5 a0 a1
  clear EQ LE HX3 hrb d0 f0 d1 f1 d2 f2 d3 f3 hlo hld hln hkf hkg
  have es : (left : Int) - 16 = (left2 : Int) := by omega
  have ew : IntKind.i64.wrap (left2 : Int) = (left2 : Int) := by rw [IntKind.wrap_i64]; omega
  clear hl2
  have c5 : w3.cell? ⟨X, 5, none⟩ = some (.int .i64 (left : Nat)) := by rw [K2.out.cell]; rfl
  have f5 := K2.out.frozen 5
  go_upto_region 5 with fail
  have hs : Solo X w3 (w3.setCell ⟨X, 5, none⟩ (.int .i64 (left2 : Nat))) := Solo.refl.setCell 5 _
  replace H1 := Lib.hid (H1.out.solo K2.out (by decide) hs)
  replace K2 := Lib.hid (show Blk _ _ _ #[.int .i64 (most : Nat), .int .i64 (paths : Nat), .slice (some ⟨rb, off, none⟩) n c, .int .i64 64, .int .i64 1, .int .i64 (left2 : Nat)] from K2.out.set 5 (.int .i64 (left2 : Nat)))
  replace K3 := Lib.hid (hs.blk K3.out (by omega))
  replace K4 := Lib.hid (hs.blk K4.out (by omega))
  replace B1 := Lib.hid (B1.out.trans (hs.1.mono (by have := HX.out; omega)))
  clear hs c5 f5 es ew
  generalize w3.setCell ⟨X, 5, none⟩ (.int .i64 (left2 : Nat)) = w4 at *
  have BS := Lib.hid B1.out.size
  have hown : (w4.alloc (.cells #[] 45)).ownsRow w.heap.size 45 2 (.slice (some ⟨w4.heap.size, 0, none⟩) 0 0) 0 [] := World.ownsRow_made w4 #[] 0 BS.out (Nat.zero_le _) (by simp)
  have hb := (Below.refl w4.heap.size w4).alloc (Nat.le_refl _) (.cells #[] 45)
  have HO := Lib.hid hown
  have HR5 := Lib.hid (H1.out.rd.below hb)
  replace K2 := Lib.hid (K2.out.below hb K2.out.lt)
  replace K3 := Lib.hid (K3.out.below hb K3.out.lt)
  replace K4 := Lib.hid (K4.out.below hb K4.out.lt)
  replace B1 := Lib.hid (B1.out.trans (hb.mono B1.out.size))
  have c2 : (w4.alloc (.cells #[] 45)).cell? ⟨X, 2, none⟩ = some (.slice (some ⟨rb, off, none⟩) n c) := by rw [K2.out.cell]; rfl
  have hroom : n * 16 ≤ room := room_ge (by omega)
  have hbw : w.heap.size ≤ (w4.alloc (.cells #[] 45)).heap.size := B1.out.size
  clear hown hb BS H1
  go_wp2_with (at_builtin; go_must (refine app0 raEl rfl _ _ rfl rfl HO.out rfl HR5.out (pz_one l) hroom hbw ?_))
  intro v5 w5 ho5 hb5
  have hz4 : (w4.alloc (.cells #[] 45)).heap.size = w4.heap.size + 1 := by simp
  rw [← hz4] at hb5
  clear hz4
  obtain ⟨A5, cc5, rfl, hnc5, _, _⟩ := own_form ho5
  have PO := Lib.hid (show Pzs w5 45 w.heap.size (.slice A5 n cc5) l by unfold Pzs; rw [HN.out]; exact ho5)
  replace K2 := Lib.hid (K2.out.below hb5 K2.out.lt)
  replace K3 := Lib.hid (K3.out.below hb5 K3.out.lt)
  replace K4 := Lib.hid (K4.out.below hb5 K4.out.lt)
  replace B1 := Lib.hid (B1.out.trans (hb5.mono B1.out.size))
  clear ho5 hb5 HO HR5 c2 hroom hbw
  have cz := K2.out.cell 2
  simp only [List.getElem?_toArray, List.getElem?_cons_zero, List.getElem?_cons_succ] at cz
  have fz := K2.out.frozen 2
  go_upto_region 6 with fail
  have hs : Solo X w5 (w5.setCell ⟨X, 2, none⟩ (.slice A5 n cc5)) := Solo.refl.setCell 2 _
  replace PO := Lib.hid (show Pzs _ _ _ _ _ from own_kept PO.out fun q hq => hs.2.2 q fun e => own_nt PO.out K2.out (by decide) (by rw [hq, e]))
  replace K2 := Lib.hid (show Blk _ _ _ #[.int .i64 (most : Nat), .int .i64 (paths : Nat), .slice A5 n cc5, .int .i64 64, .int .i64 1, .int .i64 (left2 : Nat)] from K2.out.set 2 (.slice A5 n cc5))
  replace K3 := Lib.hid (hs.blk K3.out (by omega))
  replace K4 := Lib.hid (hs.blk K4.out (by omega))
  replace B1 := Lib.hid (B1.out.trans (hs.1.mono (by have := HX.out; omega)))
  clear hs cz fz
  generalize w5.setCell ⟨X, 2, none⟩ (.slice A5 n cc5) = w6 at *
  have c2 : w6.cell? ⟨X, 2, none⟩ = some (.slice A5 n cc5) := by rw [K2.out.cell]; rfl
  have b0 : w6.cell? ⟨X + 1, 0, none⟩ = some (.int .i64 x) := by rw [K3.out.cell]; rfl
  have b1 : w6.cell? ⟨X + 1, 1, none⟩ = some (.int .i64 y) := by rw [K3.out.cell]; rfl
  obtain ⟨rb6, c6, L, hv, hBr, hbk, hnc6, hcm, hll, ht⟩ := (own_open PO.out).resolve_left (by rintro ⟨_, h0, _⟩; omega)
  injection hv with hv1 hv2 hv3
  subst hv1
  subst hv3
  have HLL := Sh.mk hll
  have HT := Sh.mk ht
  have HNC := Sh.mk hnc6
  have HBR := Lib.hid hBr
  have RB := Lib.hid hbk
  clear hv2 hll ht hnc6 hBr hbk
  have hfit : k * 2 + 2 ≤ L.length := by have := HN.out; have := HLL.out; have := HNC.out; omega
  have ne2 : X ≠ rb6 := blk_nt K2.out RB.out (by decide)
  have ne4 : X + 2 ≠ rb6 := blk_nt K4.out RB.out (by decide)
  have HSET := Sh.mk (show setL L.toArray (k * 2) [.int .i64 x, .int .i64 y] = (splv L (k * 2) (pzel (x, y))).toArray by
    show (L.toArray.setIfInBounds (k * 2) (.int .i64 x)).setIfInBounds (k * 2 + 1) (.int .i64 y) = _
    rw [List.setIfInBounds_toArray, List.setIfInBounds_toArray, splv2 hfit]
    rfl)
  have HFIT := Sh.mk (show k * 2 + 2 ≤ L.toArray.size by simpa using hfit)
  go_upto_region 9 with (refine stm_store (cs' := (splv L (k * 2) (pzel (x, y))).toArray) RB.out rfl _ _ rfl rfl rfl HFIT.out (by kernel_rfl) (by simp [Value.oneCell']) HSET.out fun w8 hk6 hs => ?_)
  replace K2 := Lib.hid (hs.blk K2.out ne2)
  replace K4 := Lib.hid (hs.blk K4.out ne4)
  replace B1 := Lib.hid (B1.out.trans (hs.1.mono HBR.out))
  have PO8 := Lib.hid (show Pzs w8 45 w.heap.size (.slice (some ⟨rb6, 0, none⟩) n cc5) (l.set k (x, y)) by
    unfold Pzs
    rw [List.length_set, HN.out]
    refine own_shut HBR.out hk6 (by rw [← HN.out]; exact HNC.out) hcm (by rw [splv_len (by exact hfit)]; exact HLL.out) ?_
    have := pz_set (a := (x, y)) HLL.out.symm HNC.out HT.out hkl
    rwa [HN.out] at this)
  clear hk6 hs hfit c2 b0 b1 PO RB ne2 ne4
  have RX8 := Lib.hid (RX.own PO8.out)
  obtain ⟨c0, c1, c2, c3, c4, c5⟩ : w8.cell? ⟨X, 0, none⟩ = some (.int .i64 (most : Nat)) ∧ w8.cell? ⟨X, 1, none⟩ = some (.int .i64 (paths : Nat)) ∧ w8.cell? ⟨X, 2, none⟩ = some (.slice (some ⟨rb6, 0, none⟩) n cc5) ∧ w8.cell? ⟨X, 3, none⟩ = some (.int .i64 64) ∧ w8.cell? ⟨X, 4, none⟩ = some (.int .i64 1) ∧ w8.cell? ⟨X, 5, none⟩ = some (.int .i64 (left2 : Nat)) := ⟨(K2.out.cell 0).trans rfl, (K2.out.cell 1).trans rfl, (K2.out.cell 2).trans rfl, (K2.out.cell 3).trans rfl, (K2.out.cell 4).trans rfl, (K2.out.cell 5).trans rfl⟩
  go_wp2_with (refine stm_store (cs' := #[.int .i64 (most : Nat), .int .i64 (paths : Nat), .slice (some ⟨rb6, 0, none⟩) n cc5, .int .i64 64, .int .i64 1, .int .i64 (left2 : Nat)]) K4.out rfl _ _ rfl rfl rfl (by simp) (by kernel_rfl) (by simp [Value.oneCell']) (by simp [setL]) fun w9 hk hs => ?_)
  obtain ⟨q0, q1, q2, q3, q4, q5⟩ : w9.cell? ⟨X + 2, 0, none⟩ = some (.int .i64 (most : Nat)) ∧ w9.cell? ⟨X + 2, 1, none⟩ = some (.int .i64 (paths : Nat)) ∧ w9.cell? ⟨X + 2, 2, none⟩ = some (.slice (some ⟨rb6, 0, none⟩) n cc5) ∧ w9.cell? ⟨X + 2, 3, none⟩ = some (.int .i64 64) ∧ w9.cell? ⟨X + 2, 4, none⟩ = some (.int .i64 1) ∧ w9.cell? ⟨X + 2, 5, none⟩ = some (.int .i64 (left2 : Nat)) := ⟨(hk.cell 0).trans rfl, (hk.cell 1).trans rfl, (hk.cell 2).trans rfl, (hk.cell 3).trans rfl, (hk.cell 4).trans rfl, (hk.cell 5).trans rfl⟩
  refine bodyPost_ret (v := .tuple #[.agg #[.int .i64 (most : Nat), .int .i64 (paths : Nat), .slice (some ⟨rb6, 0, none⟩) n cc5, .int .i64 64, .int .i64 1, .int .i64 (left2 : Nat)], .bool true]) (by simp [results, Try.results12, go_sem, q0, q1, q2, q3, q4, q5]) rfl ?_
  exact ⟨_, _, _, rfl, RX8.out.solo K4.out (by decide) hs, B1.out.trans (hs.1.mono (by have := HX.out; omega))⟩
theorem r20_add (most paths left : Nat) (A : Option Addr) (n c : Nat) (l : List (Int × Int)) (x y : Int) (w : World) (h : RX w A n c l) (hl : n ≤ most) (h8 : most ≤ 8) (h64 : left ≤ 64) (hok : AdOk most paths left l) :
    Calls Try.prog 12 #[.agg #[.int .i64 (most : Nat), .int .i64 (paths : Nat), .slice A n c, .int .i64 64, .int .i64 1, .int .i64 (left : Nat)], .agg #[.int .i64 x, .int .i64 y]] w fun e w' => ∃ A' n' c', e = .returned (.tuple #[.agg #[.int .i64 (most : Nat), .int .i64 (paths : Nat), .slice A' n' c', .int .i64 64, .int .i64 1, .int .i64 ((adAdd most paths left l (x, y)).1 : Nat)], .bool (adAdd most paths left l (x, y)).2.2]) ∧ RX w' A' n' c' ((adAdd most paths left l (x, y)).2.1) ∧ Below w.heap.size w w' := by
  have hlen := h.len
  unfold adAdd
  by_cases g0 : 0 ≤ x
  · by_cases g1 : x ≤ 255
    · by_cases g2 : 0 ≤ y
      · by_cases g3 : y < (paths : Int)
        · have hm : mayB paths (x, y) = true := by unfold mayB; rw [decide_eq_true g0, decide_eq_true g1, decide_eq_true g2, decide_eq_true g3]; rfl
          by_cases hk : atI l x < l.length
          · have hpl : plI l x = (atI l x : Int) := by unfold plI; rw [if_pos hk]
            by_cases hin : l[atI l x]? = some (x, y)
            · rw [if_pos (.inr (.inl (List.mem_of_getElem? hin)))]
              exact r20_addB most paths left A n c l x y w h hl h8 h64 g0 g1 g2 g3 (atI l x) hpl hin
            have hin' : ¬ (x, y) ∈ l := fun hm2 => by
              obtain ⟨p, hp⟩ := atI_get hk
              have := hok.uniq hm2 (List.mem_of_getElem? hp) rfl
              rw [← this] at hp
              exact hin hp
            by_cases h16 : left < 16
            · rw [if_pos (.inr (.inr (.inl h16)))]
              exact r20_addD most paths left A n c l x y w h hl h8 h64 g0 g1 g2 g3 (atI l x) hpl hk hin h16
            · rw [if_neg (by rintro (h | h | h | ⟨h, _⟩); (rw [hm] at h; cases h); (exact hin' h); (exact h16 h); exact absurd hk (Nat.not_lt.2 h))]
              simp only [if_pos hk]
              exact r20_addG most paths left A n c l x y w h hl h8 h64 g0 g1 g2 g3 (atI l x) hpl hk hin (by omega) (left - 16) (by omega)
          · have hpl : plI l x = -1 := by unfold plI; rw [if_neg hk]
            have hin' : ¬ (x, y) ∈ l := fun hm2 => hk (atI_mem.2 ⟨_, hm2, rfl⟩)
            by_cases hf : most ≤ l.length
            · rw [if_pos (.inr (.inr (.inr ⟨by simpa using hk, hf⟩)))]
              exact r20_addC most paths left A n c l x y w h hl h8 h64 g0 g1 g2 g3 hpl (by omega)
            by_cases h16 : left < 16
            · rw [if_pos (.inr (.inr (.inl h16)))]
              exact r20_addE most paths left A n c l x y w h hl h8 h64 g0 g1 g2 g3 hpl (by omega) h16
            · rw [if_neg (by rintro (h | h | h | ⟨_, h⟩); (rw [hm] at h; cases h); (exact hin' h); (exact h16 h); exact hf h)]
              simp only [if_neg hk]
              exact r20_addF most paths left A n c l x y w h hl h8 h64 g0 g1 g2 g3 hpl (by omega) (by omega) (left - 16) (by omega)
        · rw [if_pos (.inl (by unfold mayB; rw [decide_eq_false (show ¬ y < (paths : Int) by omega)]; simp))]
          exact r20_addA3 most paths left A n c l x y w h hl h8 h64 g0 g1 g2 (by omega)
      · rw [if_pos (.inl (by unfold mayB; rw [decide_eq_false (show ¬ 0 ≤ y by omega)]; simp))]
        exact r20_addA2 most paths left A n c l x y w h hl h8 h64 g0 g1 (by omega)
    · rw [if_pos (.inl (by unfold mayB; rw [decide_eq_false (show ¬ x ≤ 255 by omega)]; simp))]
      exact r20_addA1 most paths left A n c l x y w h hl h8 h64 g0 (by omega)
  · rw [if_pos (.inl (by unfold mayB; rw [decide_eq_false (show ¬ 0 ≤ x by omega)]; simp))]
    exact r20_addA0 most paths left A n c l x y w h hl h8 h64  (by omega)
end Go.Proofs.Ytdcpmfodkggpeaa
