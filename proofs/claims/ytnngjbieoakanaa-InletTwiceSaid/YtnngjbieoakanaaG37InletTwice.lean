/- Layer 6's reference: Join. -/
import Derived.Test.YtnngjbieoakanaaG36InletTwice
import Derived.Test.YtnngjbieoakanaaG5InletTwice
import Derived.Test.YtnngjbieoakanaaG8InletTwice
import Derived.BigQuiet

namespace Go.Proofs.Ytnngjbieoakanaa
open Go.RowKit
set_option linter.unusedVariables false
theorem cels_set {l : List Sp} {i : Nat} (p : Sp) (hi : i < l.length) : ((cels l).set (i * 2) (.int .u64 (p.1 : Int))).set (i * 2 + 1) (.int .u64 (p.2 : Int)) = cels (l.set i p) := by
  induction l generalizing i with
  | nil => simp at hi
  | cons q l ih =>
    cases i with
    | zero => rfl
    | succ i =>
      have := ih (i := i) (by simpa using hi)
      rw [show (i + 1) * 2 = i * 2 + 1 + 1 by omega, cels_cons, List.set_cons_succ, List.set_cons_succ, List.set_cons_succ, List.set_cons_succ, this, List.set_cons_succ, cels_cons]
/-- A piece of an owned row is written. -/
theorem Pcs.set {w : World} {e : TypeId} {B g n c i : Nat} {l : List Sp} {x y : Nat} (h : Pcs w e B (.slice (some ⟨g, 0, none⟩) n c) l) (hn : l.length = n) (hi : i < n) :
    Pcs ((w.setCell ⟨g, i * 2, none⟩ (.int .u64 (x : Int))).setCell ⟨g, i * 2 + 1, none⟩ (.int .u64 (y : Int))) e B (.slice (some ⟨g, 0, none⟩) n c) (l.set i (x, y)) := by
  unfold Pcs at *
  rw [hn] at h
  have h1 := own_setCell (u := .int .u64 (x : Int)) h (show i * 2 < n * 2 by omega)
  have h2 := own_setCell (u := .int .u64 (y : Int)) h1 (show i * 2 + 1 < n * 2 by omega)
  have := cels_set (x, y) (show i < l.length by omega)
  dsimp only at this
  rw [this] at h2
  rw [List.length_set, hn]
  exact h2
/-- The piece that is joined, and the pieces so far. -/
structure JSt (w wr : World) (T x y : Nat) (ov : Value) (o : List Sp) : Prop where
  blk : Blk wr T 79 #[.int .u64 (x : Int), .int .u64 (y : Int)]
  row : Pcs wr 79 (T + 1) ov o
  bel : Below T w wr
theorem JSt.below {w wr w1 : World} {T x y : Nat} {ov : Value} {o : List Sp} (h : JSt w wr T x y ov o) (hb : Below wr.heap.size wr w1) : JSt w w1 T x y ov o :=
  ⟨h.blk.below hb h.blk.lt, h.row.below hb, h.bel.trans (hb.mono (Nat.le_of_lt h.blk.lt))⟩
theorem JSt.row_set {wr : World} {T i : Nat} {ov u : Value} {o : List Sp} (h : Pcs wr 79 (T + 1) ov o) : Pcs (wr.setCell ⟨T, i, none⟩ u) 79 (T + 1) ov o :=
  own_kept h fun k hk => Below.heap_setCell _ _ _ _ (by have := (h.lt k hk).1; simp; omega)
theorem JSt.set0 {w wr : World} {T x y : Nat} {ov : Value} {o : List Sp} (h : JSt w wr T x y ov o) (u : Nat) : JSt w (wr.setCell ⟨T, 0, none⟩ (.int .u64 (u : Int))) T u y ov o :=
  ⟨h.blk.set 0 _, JSt.row_set h.row, h.bel.setCell (Nat.le_refl _) _⟩
theorem JSt.set1 {w wr : World} {T x y : Nat} {ov : Value} {o : List Sp} (h : JSt w wr T x y ov o) (u : Nat) : JSt w (wr.setCell ⟨T, 1, none⟩ (.int .u64 (u : Int))) T x u ov o :=
  ⟨h.blk.set 1 _, JSt.row_set h.row, h.bel.setCell (Nat.le_refl _) _⟩
theorem JSt.facts {w wr : World} {T x y : Nat} {ov : Value} {o : List Sp} (h : JSt w wr T x y ov o) : wr.cell? ⟨T, 0, none⟩ = some (.int .u64 (x : Int)) ∧ wr.cell? ⟨T, 1, none⟩ = some (.int .u64 (y : Int)) ∧ wr.frozen? ⟨T, 0, none⟩ = false ∧ wr.frozen? ⟨T, 1, none⟩ = false := by
  refine ⟨?_, ?_, h.blk.frozen 0, h.blk.frozen 1⟩
  · rw [h.blk.cell]; rfl
  · rw [h.blk.cell]; rfl
set_option maxRecDepth 20000 in
set_option maxHeartbeats 4000000 in
theorem join_any (A : Option Addr) (n c B : Nat) (l : List Sp) (f t : Nat) (w : World) (h : Rd w B 2 A n (cels l)) (hB : B ≤ w.heap.size) (hr : Rise l) (hft : f < t) (hn : n ≤ 1000) :
    Calls Try.prog 42 #[.slice A n c, .agg #[.int .u64 (f : Int), .int .u64 (t : Int)]] w fun e w' => ∃ v, e = .returned v ∧ Pcs w' 79 w.heap.size v (addL l f t) ∧ Below w.heap.size w w' := by
  have HR := Lib.hid (h.mono hB)
  have HL := Lib.hid h.pcLen
  have HRI := Lib.hid hr
  have HJ := Lib.hid (joinK_all hr hft)
  have HLT := Lib.hid hft
  have hbk := Blk.new w 79 #[.int .u64 (f : Int), .int .u64 (t : Int)]
  have hb0 : Below w.heap.size w (w.alloc (.cells #[.int .u64 (f : Int), .int .u64 (t : Int)] 79)) := (Below.refl _ _).alloc (Nat.le_refl _) _
  clear h hr hft
  go_enter Try.func42, Try.ntmps42
  go_wp2_with fail
  generalize w.alloc (.cells #[.int .u64 (f : Int), .int .u64 (t : Int)] 79) = W at *
  obtain ⟨T, hT⟩ : ∃ T, T = w.heap.size := ⟨_, rfl⟩
  rw [← hT] at hbk hb0 hB HR ⊢
  have HBK := Lib.hid hbk
  have HTT := Lib.hid hT
  clear hT hbk
  go_loopw [5, 6] (fun ov iv wr => ∃ (k x y : Nat) (o : List Sp), k ≤ n ∧ iv = .int .i64 k ∧ Hid (joinK l (f, t) k = (o, (x, y))) ∧ Hid (Blk wr T 79 #[.int .u64 (x : Int), .int .u64 (y : Int)]) ∧ Hid (Pcs wr 79 (T + 1) ov o) ∧ Below T w wr) (fun _ iv _ => n - (intOf iv).toNat)
  case atStart => exact ⟨0, f, t, [], Nat.zero_le _, rfl, Lib.hid rfl, HBK, Lib.hid (Pcs.nil _ _ _), hb0⟩
  case round =>
    obtain ⟨k, x, y, o, hk, rfl, hj, hblk, ho, hbw⟩ := hrel
    clear hb0 HBK
    obtain ⟨A7, n7, c7, rfl, _, _, hl7, _⟩ := ho.out.out
    have t0 := hblk.out.cell 0
    have t1 := hblk.out.cell 1
    have tf0 := hblk.out.frozen 0
    have tf1 := hblk.out.frozen 1
    simp only [List.getElem?_toArray, List.getElem?_cons_zero, List.getElem?_cons_succ] at t0 t1
    have hTw := hblk.out.lt
    have hol : o.length ≤ k := by have := joinK_len l (f, t) k; rw [hj.out] at this; exact this
    have hroom : (o.length + 1) * 16 ≤ room := room_ge (by omega)
    by_cases hlt : k < n
    · have hlt' : (k : Int) < (n : Int) := by omega
      obtain ⟨b, off, u, v, rfl, hbb, p0, p1, hp⟩ := (HR.out.below hbw).pc hlt
      have hst := joinK_step (x := (f, t)) hp.out
      rw [hj.out] at hst
      unfold joinS at hst
      dsimp only at hst
      clear hj hl7
      by_cases c1 : v < x
      · have c1' : (v : Int) < (x : Int) := by omega
        rw [if_pos (.inl c1)] at hst
        have HST := Lib.hid hst
        clear hst hp
        go_wp2_with fail
        go_quiet (fail)
        go_wp2_with (at_builtin; refine app1p prfEl u v rfl (.tmp 32) (.tmp 37) rfl rfl (show Pcs (wr.drewN _) 79 (T + 1) _ o from ho.out) rfl rfl hroom hTw ?_)
        intro v2 w2 ho2 hg2 hb2
        have HO2 := Lib.hid ho2
        have HBK2 := Lib.hid ((show Blk (wr.drewN _) T 79 _ from hblk.out).below hb2 (Nat.lt_succ_self T))
        have HBW2 := Lib.hid ((below_drewN hbw _).trans (hb2.mono (Nat.le_succ T)))
        clear ho2 hg2 hb2 t0 t1 tf0 tf1 p0 p1
        go_wp2_with fail
        go_roundw
        case rel => exact ⟨k + 1, x, y, o ++ [(u, v)], by omega, by go_num, HST, HBK2, HO2, HBW2.out⟩
        case measure => simp [intOf]; omega
      · have c1' : ¬ (v : Int) < (x : Int) := by omega
        have c1d : decide (v < x) = false := decide_eq_false c1
        by_cases c2 : y < u
        · have c2' : (y : Int) < (u : Int) := by omega
          rw [if_pos (.inr c2)] at hst
          have HST := Lib.hid hst
          clear hst hp
          go_wp2_with fail
          go_quiet (fail)
          go_wp2_with (at_builtin; refine app1p prfEl u v rfl (.tmp 32) (.tmp 37) rfl rfl (show Pcs (wr.drewN _) 79 (T + 1) _ o from ho.out) rfl rfl hroom hTw ?_)
          intro v2 w2 ho2 hg2 hb2
          have HO2 := Lib.hid ho2
          have HBK2 := Lib.hid ((show Blk (wr.drewN _) T 79 _ from hblk.out).below hb2 (Nat.lt_succ_self T))
          have HBW2 := Lib.hid ((below_drewN hbw _).trans (hb2.mono (Nat.le_succ T)))
          clear ho2 hg2 hb2 t0 t1 tf0 tf1 p0 p1
          go_wp2_with fail
          go_roundw
          case rel => exact ⟨k + 1, x, y, o ++ [(u, v)], by omega, by go_num, HST, HBK2, HO2, HBW2.out⟩
          case measure => simp [intOf]; omega
        · have c2' : ¬ (y : Int) < (u : Int) := by omega
          rw [if_neg (by omega)] at hst
          by_cases c3 : u < x
          · by_cases c4 : y < v
            · skip
              have hmn : min u x = u := by omega
              have hmx : max v y = v := by omega
              rw [hmn, hmx] at hst
              have HST := Lib.hid hst
              have c3' : (u : Int) < (x : Int) := by omega
              have c4' : (y : Int) < (v : Int) := by omega
              have J0 := Lib.hid (JSt.mk hblk.out ho.out hbw : JSt w wr T x y _ o)
              have P0 := Lib.hid p0
              have P1 := Lib.hid p1
              clear hst hp hmn hmx hblk ho
              go_wp2_with fail
              refine wp_ext (by kernel_rfl) (by kernel_rfl) (fun QQ hQ => ?_)
              (first | (refine x_load _ (by rfl) rfl rfl (by assumption) (by kernel_rfl) ?_; simp only [Act.put, List.setIfInBounds_toArray, List.set_cons_zero, List.set_cons_succ]) | (refine x_val (v := ?_) (by rfl) (fun w' hx => ?_) ?_; rotate_left; (focus (go_simp; (try with_reducible rfl))); (try simp only [Act.put, List.setIfInBounds_toArray, List.set_cons_zero, List.set_cons_succ])))
              (first | (refine x_load _ (by rfl) rfl rfl (by assumption) (by kernel_rfl) ?_; simp only [Act.put, List.setIfInBounds_toArray, List.set_cons_zero, List.set_cons_succ]) | (refine x_val (v := ?_) (by rfl) (fun w' hx => ?_) ?_; rotate_left; (focus (go_simp; (try with_reducible rfl))); (try simp only [Act.put, List.setIfInBounds_toArray, List.set_cons_zero, List.set_cons_succ])))
              (first | (refine x_load _ (by rfl) rfl rfl (by assumption) (by kernel_rfl) ?_; simp only [Act.put, List.setIfInBounds_toArray, List.set_cons_zero, List.set_cons_succ]) | (refine x_val (v := ?_) (by rfl) (fun w' hx => ?_) ?_; rotate_left; (focus (go_simp; (try with_reducible rfl))); (try simp only [Act.put, List.setIfInBounds_toArray, List.set_cons_zero, List.set_cons_succ])))
              (first | (refine x_load _ (by rfl) rfl rfl (by assumption) (by kernel_rfl) ?_; simp only [Act.put, List.setIfInBounds_toArray, List.set_cons_zero, List.set_cons_succ]) | (refine x_val (v := ?_) (by rfl) (fun w' hx => ?_) ?_; rotate_left; (focus (go_simp; (try with_reducible rfl))); (try simp only [Act.put, List.setIfInBounds_toArray, List.set_cons_zero, List.set_cons_succ])))
              (first | (refine x_load _ (by rfl) rfl rfl (by assumption) (by kernel_rfl) ?_; simp only [Act.put, List.setIfInBounds_toArray, List.set_cons_zero, List.set_cons_succ]) | (refine x_val (v := ?_) (by rfl) (fun w' hx => ?_) ?_; rotate_left; (focus (go_simp; (try with_reducible rfl))); (try simp only [Act.put, List.setIfInBounds_toArray, List.set_cons_zero, List.set_cons_succ])))
              (first | (refine x_load _ (by rfl) rfl rfl (by assumption) (by kernel_rfl) ?_; simp only [Act.put, List.setIfInBounds_toArray, List.set_cons_zero, List.set_cons_succ]) | (refine x_val (v := ?_) (by rfl) (fun w' hx => ?_) ?_; rotate_left; (focus (go_simp; (try with_reducible rfl))); (try simp only [Act.put, List.setIfInBounds_toArray, List.set_cons_zero, List.set_cons_succ])))
              (first | (refine x_load _ (by rfl) rfl rfl (by assumption) (by kernel_rfl) ?_; simp only [Act.put, List.setIfInBounds_toArray, List.set_cons_zero, List.set_cons_succ]) | (refine x_val (v := ?_) (by rfl) (fun w' hx => ?_) ?_; rotate_left; (focus (go_simp; (try with_reducible rfl))); (try simp only [Act.put, List.setIfInBounds_toArray, List.set_cons_zero, List.set_cons_succ])))
              (first | (refine x_load _ (by rfl) rfl rfl (by assumption) (by kernel_rfl) ?_; simp only [Act.put, List.setIfInBounds_toArray, List.set_cons_zero, List.set_cons_succ]) | (refine x_val (v := ?_) (by rfl) (fun w' hx => ?_) ?_; rotate_left; (focus (go_simp; (try with_reducible rfl))); (try simp only [Act.put, List.setIfInBounds_toArray, List.set_cons_zero, List.set_cons_succ])))
              (first | (refine x_load _ (by rfl) rfl rfl (by assumption) (by kernel_rfl) ?_; simp only [Act.put, List.setIfInBounds_toArray, List.set_cons_zero, List.set_cons_succ]) | (refine x_val (v := ?_) (by rfl) (fun w' hx => ?_) ?_; rotate_left; (focus (go_simp; (try with_reducible rfl))); (try simp only [Act.put, List.setIfInBounds_toArray, List.set_cons_zero, List.set_cons_succ])))
              (first | (refine x_load _ (by rfl) rfl rfl (by assumption) (by kernel_rfl) ?_; simp only [Act.put, List.setIfInBounds_toArray, List.set_cons_zero, List.set_cons_succ]) | (refine x_val (v := ?_) (by rfl) (fun w' hx => ?_) ?_; rotate_left; (focus (go_simp; (try with_reducible rfl))); (try simp only [Act.put, List.setIfInBounds_toArray, List.set_cons_zero, List.set_cons_succ])))
              (first | (refine x_load _ (by rfl) rfl rfl (by assumption) (by kernel_rfl) ?_; simp only [Act.put, List.setIfInBounds_toArray, List.set_cons_zero, List.set_cons_succ]) | (refine x_val (v := ?_) (by rfl) (fun w' hx => ?_) ?_; rotate_left; (focus (go_simp; (try with_reducible rfl))); (try simp only [Act.put, List.setIfInBounds_toArray, List.set_cons_zero, List.set_cons_succ])))
              (first | (refine x_load _ (by rfl) rfl rfl (by assumption) (by kernel_rfl) ?_; simp only [Act.put, List.setIfInBounds_toArray, List.set_cons_zero, List.set_cons_succ]) | (refine x_val (v := ?_) (by rfl) (fun w' hx => ?_) ?_; rotate_left; (focus (go_simp; (try with_reducible rfl))); (try simp only [Act.put, List.setIfInBounds_toArray, List.set_cons_zero, List.set_cons_succ])))
              (first | (refine x_load _ (by rfl) rfl rfl (by assumption) (by kernel_rfl) ?_; simp only [Act.put, List.setIfInBounds_toArray, List.set_cons_zero, List.set_cons_succ]) | (refine x_val (v := ?_) (by rfl) (fun w' hx => ?_) ?_; rotate_left; (focus (go_simp; (try with_reducible rfl))); (try simp only [Act.put, List.setIfInBounds_toArray, List.set_cons_zero, List.set_cons_succ])))
              (first | (refine x_load _ (by rfl) rfl rfl (by assumption) (by kernel_rfl) ?_; simp only [Act.put, List.setIfInBounds_toArray, List.set_cons_zero, List.set_cons_succ]) | (refine x_val (v := ?_) (by rfl) (fun w' hx => ?_) ?_; rotate_left; (focus (go_simp; (try with_reducible rfl))); (try simp only [Act.put, List.setIfInBounds_toArray, List.set_cons_zero, List.set_cons_succ])))
              (first | (refine x_load _ (by rfl) rfl rfl (by assumption) (by kernel_rfl) ?_; simp only [Act.put, List.setIfInBounds_toArray, List.set_cons_zero, List.set_cons_succ]) | (refine x_val (v := ?_) (by rfl) (fun w' hx => ?_) ?_; rotate_left; (focus (go_simp; (try with_reducible rfl))); (try simp only [Act.put, List.setIfInBounds_toArray, List.set_cons_zero, List.set_cons_succ])))
              (first | (refine x_load _ (by rfl) rfl rfl (by assumption) (by kernel_rfl) ?_; simp only [Act.put, List.setIfInBounds_toArray, List.set_cons_zero, List.set_cons_succ]) | (refine x_val (v := ?_) (by rfl) (fun w' hx => ?_) ?_; rotate_left; (focus (go_simp; (try with_reducible rfl))); (try simp only [Act.put, List.setIfInBounds_toArray, List.set_cons_zero, List.set_cons_succ])))
              (first | (refine x_load _ (by rfl) rfl rfl (by assumption) (by kernel_rfl) ?_; simp only [Act.put, List.setIfInBounds_toArray, List.set_cons_zero, List.set_cons_succ]) | (refine x_val (v := ?_) (by rfl) (fun w' hx => ?_) ?_; rotate_left; (focus (go_simp; (try with_reducible rfl))); (try simp only [Act.put, List.setIfInBounds_toArray, List.set_cons_zero, List.set_cons_succ])))
              (first | (refine x_load _ (by rfl) rfl rfl (by assumption) (by kernel_rfl) ?_; simp only [Act.put, List.setIfInBounds_toArray, List.set_cons_zero, List.set_cons_succ]) | (refine x_val (v := ?_) (by rfl) (fun w' hx => ?_) ?_; rotate_left; (focus (go_simp; (try with_reducible rfl))); (try simp only [Act.put, List.setIfInBounds_toArray, List.set_cons_zero, List.set_cons_succ])))
              refine x_nil (hQ.out _ ?_); clear hQ QQ
              intro w1 hb1
              have J1 := Lib.hid (J0.out.below hb1)
              have BT1 := Lib.hid (hb1.mono (Nat.le_of_lt hTw))
              clear hb1 t0 t1 tf0 tf1 p0 p1
              obtain ⟨s0, s1, sf0, sf1⟩ := J1.out.facts
              have p0 := (BT1.out.cell (p := ⟨b, off + k * 2, none⟩) hbb).trans P0.out
              have p1 := (BT1.out.cell (p := ⟨b, off + k * 2 + 1, none⟩) hbb).trans P1.out
              have hT1 := J1.out.blk.lt
              go_wp2_with fail
              refine wp_ext (by kernel_rfl) (by kernel_rfl) (fun QQ hQ => ?_)
              (first | (refine x_load _ (by rfl) rfl rfl (by assumption) (by kernel_rfl) ?_; simp only [Act.put, List.setIfInBounds_toArray, List.set_cons_zero, List.set_cons_succ]) | (refine x_val (v := ?_) (by rfl) (fun w' hx => ?_) ?_; rotate_left; (focus (go_simp; (try with_reducible rfl))); (try simp only [Act.put, List.setIfInBounds_toArray, List.set_cons_zero, List.set_cons_succ])))
              (first | (refine x_load _ (by rfl) rfl rfl (by assumption) (by kernel_rfl) ?_; simp only [Act.put, List.setIfInBounds_toArray, List.set_cons_zero, List.set_cons_succ]) | (refine x_val (v := ?_) (by rfl) (fun w' hx => ?_) ?_; rotate_left; (focus (go_simp; (try with_reducible rfl))); (try simp only [Act.put, List.setIfInBounds_toArray, List.set_cons_zero, List.set_cons_succ])))
              (first | (refine x_load _ (by rfl) rfl rfl (by assumption) (by kernel_rfl) ?_; simp only [Act.put, List.setIfInBounds_toArray, List.set_cons_zero, List.set_cons_succ]) | (refine x_val (v := ?_) (by rfl) (fun w' hx => ?_) ?_; rotate_left; (focus (go_simp; (try with_reducible rfl))); (try simp only [Act.put, List.setIfInBounds_toArray, List.set_cons_zero, List.set_cons_succ])))
              (first | (refine x_load _ (by rfl) rfl rfl (by assumption) (by kernel_rfl) ?_; simp only [Act.put, List.setIfInBounds_toArray, List.set_cons_zero, List.set_cons_succ]) | (refine x_val (v := ?_) (by rfl) (fun w' hx => ?_) ?_; rotate_left; (focus (go_simp; (try with_reducible rfl))); (try simp only [Act.put, List.setIfInBounds_toArray, List.set_cons_zero, List.set_cons_succ])))
              (first | (refine x_load _ (by rfl) rfl rfl (by assumption) (by kernel_rfl) ?_; simp only [Act.put, List.setIfInBounds_toArray, List.set_cons_zero, List.set_cons_succ]) | (refine x_val (v := ?_) (by rfl) (fun w' hx => ?_) ?_; rotate_left; (focus (go_simp; (try with_reducible rfl))); (try simp only [Act.put, List.setIfInBounds_toArray, List.set_cons_zero, List.set_cons_succ])))
              (first | (refine x_load _ (by rfl) rfl rfl (by assumption) (by kernel_rfl) ?_; simp only [Act.put, List.setIfInBounds_toArray, List.set_cons_zero, List.set_cons_succ]) | (refine x_val (v := ?_) (by rfl) (fun w' hx => ?_) ?_; rotate_left; (focus (go_simp; (try with_reducible rfl))); (try simp only [Act.put, List.setIfInBounds_toArray, List.set_cons_zero, List.set_cons_succ])))
              (first | (refine x_load _ (by rfl) rfl rfl (by assumption) (by kernel_rfl) ?_; simp only [Act.put, List.setIfInBounds_toArray, List.set_cons_zero, List.set_cons_succ]) | (refine x_val (v := ?_) (by rfl) (fun w' hx => ?_) ?_; rotate_left; (focus (go_simp; (try with_reducible rfl))); (try simp only [Act.put, List.setIfInBounds_toArray, List.set_cons_zero, List.set_cons_succ])))
              (first | (refine x_load _ (by rfl) rfl rfl (by assumption) (by kernel_rfl) ?_; simp only [Act.put, List.setIfInBounds_toArray, List.set_cons_zero, List.set_cons_succ]) | (refine x_val (v := ?_) (by rfl) (fun w' hx => ?_) ?_; rotate_left; (focus (go_simp; (try with_reducible rfl))); (try simp only [Act.put, List.setIfInBounds_toArray, List.set_cons_zero, List.set_cons_succ])))
              refine x_nil (hQ.out _ ?_); clear hQ QQ
              intro w2 hb2
              have J2 := Lib.hid (J1.out.below hb2)
              have BT2 := Lib.hid (BT1.out.trans (hb2.mono (Nat.le_of_lt hT1)))
              clear hb2 s0 s1 sf0 sf1 p0 p1 hT1
              obtain ⟨s0, s1, sf0, sf1⟩ := J2.out.facts
              have p0 := (BT2.out.cell (p := ⟨b, off + k * 2, none⟩) hbb).trans P0.out
              have p1 := (BT2.out.cell (p := ⟨b, off + k * 2 + 1, none⟩) hbb).trans P1.out
              go_wp2_with fail
              have J3 := Lib.hid (J2.out.set0 u)
              have BT3 := Lib.hid (BT2.out.setCell (p := ⟨T, 0, none⟩) (Nat.le_refl T) (.int .u64 (u : Int)))
              generalize w2.setCell ⟨T, 0, none⟩ (.int .u64 (u : Int)) = w3 at *
              clear s0 s1 sf0 sf1 p0 p1
              obtain ⟨s0, s1, sf0, sf1⟩ := J3.out.facts
              have p0 := (BT3.out.cell (p := ⟨b, off + k * 2, none⟩) hbb).trans P0.out
              have p1 := (BT3.out.cell (p := ⟨b, off + k * 2 + 1, none⟩) hbb).trans P1.out
              have hT3 := J3.out.blk.lt
              refine wp_ext (by kernel_rfl) (by kernel_rfl) (fun QQ hQ => ?_)
              (first | (refine x_load _ (by rfl) rfl rfl (by assumption) (by kernel_rfl) ?_; simp only [Act.put, List.setIfInBounds_toArray, List.set_cons_zero, List.set_cons_succ]) | (refine x_val (v := ?_) (by rfl) (fun w' hx => ?_) ?_; rotate_left; (focus (go_simp; (try with_reducible rfl))); (try simp only [Act.put, List.setIfInBounds_toArray, List.set_cons_zero, List.set_cons_succ])))
              (first | (refine x_load _ (by rfl) rfl rfl (by assumption) (by kernel_rfl) ?_; simp only [Act.put, List.setIfInBounds_toArray, List.set_cons_zero, List.set_cons_succ]) | (refine x_val (v := ?_) (by rfl) (fun w' hx => ?_) ?_; rotate_left; (focus (go_simp; (try with_reducible rfl))); (try simp only [Act.put, List.setIfInBounds_toArray, List.set_cons_zero, List.set_cons_succ])))
              (first | (refine x_load _ (by rfl) rfl rfl (by assumption) (by kernel_rfl) ?_; simp only [Act.put, List.setIfInBounds_toArray, List.set_cons_zero, List.set_cons_succ]) | (refine x_val (v := ?_) (by rfl) (fun w' hx => ?_) ?_; rotate_left; (focus (go_simp; (try with_reducible rfl))); (try simp only [Act.put, List.setIfInBounds_toArray, List.set_cons_zero, List.set_cons_succ])))
              (first | (refine x_load _ (by rfl) rfl rfl (by assumption) (by kernel_rfl) ?_; simp only [Act.put, List.setIfInBounds_toArray, List.set_cons_zero, List.set_cons_succ]) | (refine x_val (v := ?_) (by rfl) (fun w' hx => ?_) ?_; rotate_left; (focus (go_simp; (try with_reducible rfl))); (try simp only [Act.put, List.setIfInBounds_toArray, List.set_cons_zero, List.set_cons_succ])))
              (first | (refine x_load _ (by rfl) rfl rfl (by assumption) (by kernel_rfl) ?_; simp only [Act.put, List.setIfInBounds_toArray, List.set_cons_zero, List.set_cons_succ]) | (refine x_val (v := ?_) (by rfl) (fun w' hx => ?_) ?_; rotate_left; (focus (go_simp; (try with_reducible rfl))); (try simp only [Act.put, List.setIfInBounds_toArray, List.set_cons_zero, List.set_cons_succ])))
              (first | (refine x_load _ (by rfl) rfl rfl (by assumption) (by kernel_rfl) ?_; simp only [Act.put, List.setIfInBounds_toArray, List.set_cons_zero, List.set_cons_succ]) | (refine x_val (v := ?_) (by rfl) (fun w' hx => ?_) ?_; rotate_left; (focus (go_simp; (try with_reducible rfl))); (try simp only [Act.put, List.setIfInBounds_toArray, List.set_cons_zero, List.set_cons_succ])))
              (first | (refine x_load _ (by rfl) rfl rfl (by assumption) (by kernel_rfl) ?_; simp only [Act.put, List.setIfInBounds_toArray, List.set_cons_zero, List.set_cons_succ]) | (refine x_val (v := ?_) (by rfl) (fun w' hx => ?_) ?_; rotate_left; (focus (go_simp; (try with_reducible rfl))); (try simp only [Act.put, List.setIfInBounds_toArray, List.set_cons_zero, List.set_cons_succ])))
              (first | (refine x_load _ (by rfl) rfl rfl (by assumption) (by kernel_rfl) ?_; simp only [Act.put, List.setIfInBounds_toArray, List.set_cons_zero, List.set_cons_succ]) | (refine x_val (v := ?_) (by rfl) (fun w' hx => ?_) ?_; rotate_left; (focus (go_simp; (try with_reducible rfl))); (try simp only [Act.put, List.setIfInBounds_toArray, List.set_cons_zero, List.set_cons_succ])))
              refine x_nil (hQ.out _ ?_); clear hQ QQ
              intro w4 hb4
              have J4 := Lib.hid (J3.out.below hb4)
              have BT4 := Lib.hid (BT3.out.trans (hb4.mono (Nat.le_of_lt hT3)))
              clear hb4 s0 s1 sf0 sf1 p0 p1 hT3
              obtain ⟨s0, s1, sf0, sf1⟩ := J4.out.facts
              have p0 := (BT4.out.cell (p := ⟨b, off + k * 2, none⟩) hbb).trans P0.out
              have p1 := (BT4.out.cell (p := ⟨b, off + k * 2 + 1, none⟩) hbb).trans P1.out
              go_wp2_with fail
              have J5 := Lib.hid (J4.out.set1 v)
              clear s0 s1 sf0 sf1 p0 p1
              go_roundw
              case rel => exact ⟨k + 1, u, v, o, by omega, by go_num, HST, Lib.hid J5.out.blk, Lib.hid J5.out.row, J5.out.bel⟩
              case measure => simp [intOf]; omega
            · skip
              have hmn : min u x = u := by omega
              have hmx : max v y = y := by omega
              rw [hmn, hmx] at hst
              have HST := Lib.hid hst
              have c3' : (u : Int) < (x : Int) := by omega
              have c4' : ¬ (y : Int) < (v : Int) := by omega
              have J0 := Lib.hid (JSt.mk hblk.out ho.out hbw : JSt w wr T x y _ o)
              have P0 := Lib.hid p0
              have P1 := Lib.hid p1
              clear hst hp hmn hmx hblk ho
              go_wp2_with fail
              refine wp_ext (by kernel_rfl) (by kernel_rfl) (fun QQ hQ => ?_)
              (first | (refine x_load _ (by rfl) rfl rfl (by assumption) (by kernel_rfl) ?_; simp only [Act.put, List.setIfInBounds_toArray, List.set_cons_zero, List.set_cons_succ]) | (refine x_val (v := ?_) (by rfl) (fun w' hx => ?_) ?_; rotate_left; (focus (go_simp; (try with_reducible rfl))); (try simp only [Act.put, List.setIfInBounds_toArray, List.set_cons_zero, List.set_cons_succ])))
              (first | (refine x_load _ (by rfl) rfl rfl (by assumption) (by kernel_rfl) ?_; simp only [Act.put, List.setIfInBounds_toArray, List.set_cons_zero, List.set_cons_succ]) | (refine x_val (v := ?_) (by rfl) (fun w' hx => ?_) ?_; rotate_left; (focus (go_simp; (try with_reducible rfl))); (try simp only [Act.put, List.setIfInBounds_toArray, List.set_cons_zero, List.set_cons_succ])))
              (first | (refine x_load _ (by rfl) rfl rfl (by assumption) (by kernel_rfl) ?_; simp only [Act.put, List.setIfInBounds_toArray, List.set_cons_zero, List.set_cons_succ]) | (refine x_val (v := ?_) (by rfl) (fun w' hx => ?_) ?_; rotate_left; (focus (go_simp; (try with_reducible rfl))); (try simp only [Act.put, List.setIfInBounds_toArray, List.set_cons_zero, List.set_cons_succ])))
              (first | (refine x_load _ (by rfl) rfl rfl (by assumption) (by kernel_rfl) ?_; simp only [Act.put, List.setIfInBounds_toArray, List.set_cons_zero, List.set_cons_succ]) | (refine x_val (v := ?_) (by rfl) (fun w' hx => ?_) ?_; rotate_left; (focus (go_simp; (try with_reducible rfl))); (try simp only [Act.put, List.setIfInBounds_toArray, List.set_cons_zero, List.set_cons_succ])))
              (first | (refine x_load _ (by rfl) rfl rfl (by assumption) (by kernel_rfl) ?_; simp only [Act.put, List.setIfInBounds_toArray, List.set_cons_zero, List.set_cons_succ]) | (refine x_val (v := ?_) (by rfl) (fun w' hx => ?_) ?_; rotate_left; (focus (go_simp; (try with_reducible rfl))); (try simp only [Act.put, List.setIfInBounds_toArray, List.set_cons_zero, List.set_cons_succ])))
              (first | (refine x_load _ (by rfl) rfl rfl (by assumption) (by kernel_rfl) ?_; simp only [Act.put, List.setIfInBounds_toArray, List.set_cons_zero, List.set_cons_succ]) | (refine x_val (v := ?_) (by rfl) (fun w' hx => ?_) ?_; rotate_left; (focus (go_simp; (try with_reducible rfl))); (try simp only [Act.put, List.setIfInBounds_toArray, List.set_cons_zero, List.set_cons_succ])))
              (first | (refine x_load _ (by rfl) rfl rfl (by assumption) (by kernel_rfl) ?_; simp only [Act.put, List.setIfInBounds_toArray, List.set_cons_zero, List.set_cons_succ]) | (refine x_val (v := ?_) (by rfl) (fun w' hx => ?_) ?_; rotate_left; (focus (go_simp; (try with_reducible rfl))); (try simp only [Act.put, List.setIfInBounds_toArray, List.set_cons_zero, List.set_cons_succ])))
              (first | (refine x_load _ (by rfl) rfl rfl (by assumption) (by kernel_rfl) ?_; simp only [Act.put, List.setIfInBounds_toArray, List.set_cons_zero, List.set_cons_succ]) | (refine x_val (v := ?_) (by rfl) (fun w' hx => ?_) ?_; rotate_left; (focus (go_simp; (try with_reducible rfl))); (try simp only [Act.put, List.setIfInBounds_toArray, List.set_cons_zero, List.set_cons_succ])))
              (first | (refine x_load _ (by rfl) rfl rfl (by assumption) (by kernel_rfl) ?_; simp only [Act.put, List.setIfInBounds_toArray, List.set_cons_zero, List.set_cons_succ]) | (refine x_val (v := ?_) (by rfl) (fun w' hx => ?_) ?_; rotate_left; (focus (go_simp; (try with_reducible rfl))); (try simp only [Act.put, List.setIfInBounds_toArray, List.set_cons_zero, List.set_cons_succ])))
              (first | (refine x_load _ (by rfl) rfl rfl (by assumption) (by kernel_rfl) ?_; simp only [Act.put, List.setIfInBounds_toArray, List.set_cons_zero, List.set_cons_succ]) | (refine x_val (v := ?_) (by rfl) (fun w' hx => ?_) ?_; rotate_left; (focus (go_simp; (try with_reducible rfl))); (try simp only [Act.put, List.setIfInBounds_toArray, List.set_cons_zero, List.set_cons_succ])))
              (first | (refine x_load _ (by rfl) rfl rfl (by assumption) (by kernel_rfl) ?_; simp only [Act.put, List.setIfInBounds_toArray, List.set_cons_zero, List.set_cons_succ]) | (refine x_val (v := ?_) (by rfl) (fun w' hx => ?_) ?_; rotate_left; (focus (go_simp; (try with_reducible rfl))); (try simp only [Act.put, List.setIfInBounds_toArray, List.set_cons_zero, List.set_cons_succ])))
              (first | (refine x_load _ (by rfl) rfl rfl (by assumption) (by kernel_rfl) ?_; simp only [Act.put, List.setIfInBounds_toArray, List.set_cons_zero, List.set_cons_succ]) | (refine x_val (v := ?_) (by rfl) (fun w' hx => ?_) ?_; rotate_left; (focus (go_simp; (try with_reducible rfl))); (try simp only [Act.put, List.setIfInBounds_toArray, List.set_cons_zero, List.set_cons_succ])))
              (first | (refine x_load _ (by rfl) rfl rfl (by assumption) (by kernel_rfl) ?_; simp only [Act.put, List.setIfInBounds_toArray, List.set_cons_zero, List.set_cons_succ]) | (refine x_val (v := ?_) (by rfl) (fun w' hx => ?_) ?_; rotate_left; (focus (go_simp; (try with_reducible rfl))); (try simp only [Act.put, List.setIfInBounds_toArray, List.set_cons_zero, List.set_cons_succ])))
              (first | (refine x_load _ (by rfl) rfl rfl (by assumption) (by kernel_rfl) ?_; simp only [Act.put, List.setIfInBounds_toArray, List.set_cons_zero, List.set_cons_succ]) | (refine x_val (v := ?_) (by rfl) (fun w' hx => ?_) ?_; rotate_left; (focus (go_simp; (try with_reducible rfl))); (try simp only [Act.put, List.setIfInBounds_toArray, List.set_cons_zero, List.set_cons_succ])))
              (first | (refine x_load _ (by rfl) rfl rfl (by assumption) (by kernel_rfl) ?_; simp only [Act.put, List.setIfInBounds_toArray, List.set_cons_zero, List.set_cons_succ]) | (refine x_val (v := ?_) (by rfl) (fun w' hx => ?_) ?_; rotate_left; (focus (go_simp; (try with_reducible rfl))); (try simp only [Act.put, List.setIfInBounds_toArray, List.set_cons_zero, List.set_cons_succ])))
              (first | (refine x_load _ (by rfl) rfl rfl (by assumption) (by kernel_rfl) ?_; simp only [Act.put, List.setIfInBounds_toArray, List.set_cons_zero, List.set_cons_succ]) | (refine x_val (v := ?_) (by rfl) (fun w' hx => ?_) ?_; rotate_left; (focus (go_simp; (try with_reducible rfl))); (try simp only [Act.put, List.setIfInBounds_toArray, List.set_cons_zero, List.set_cons_succ])))
              (first | (refine x_load _ (by rfl) rfl rfl (by assumption) (by kernel_rfl) ?_; simp only [Act.put, List.setIfInBounds_toArray, List.set_cons_zero, List.set_cons_succ]) | (refine x_val (v := ?_) (by rfl) (fun w' hx => ?_) ?_; rotate_left; (focus (go_simp; (try with_reducible rfl))); (try simp only [Act.put, List.setIfInBounds_toArray, List.set_cons_zero, List.set_cons_succ])))
              (first | (refine x_load _ (by rfl) rfl rfl (by assumption) (by kernel_rfl) ?_; simp only [Act.put, List.setIfInBounds_toArray, List.set_cons_zero, List.set_cons_succ]) | (refine x_val (v := ?_) (by rfl) (fun w' hx => ?_) ?_; rotate_left; (focus (go_simp; (try with_reducible rfl))); (try simp only [Act.put, List.setIfInBounds_toArray, List.set_cons_zero, List.set_cons_succ])))
              refine x_nil (hQ.out _ ?_); clear hQ QQ
              intro w1 hb1
              have J1 := Lib.hid (J0.out.below hb1)
              have BT1 := Lib.hid (hb1.mono (Nat.le_of_lt hTw))
              clear hb1 t0 t1 tf0 tf1 p0 p1
              obtain ⟨s0, s1, sf0, sf1⟩ := J1.out.facts
              have p0 := (BT1.out.cell (p := ⟨b, off + k * 2, none⟩) hbb).trans P0.out
              have p1 := (BT1.out.cell (p := ⟨b, off + k * 2 + 1, none⟩) hbb).trans P1.out
              have hT1 := J1.out.blk.lt
              go_wp2_with fail
              refine wp_ext (by kernel_rfl) (by kernel_rfl) (fun QQ hQ => ?_)
              (first | (refine x_load _ (by rfl) rfl rfl (by assumption) (by kernel_rfl) ?_; simp only [Act.put, List.setIfInBounds_toArray, List.set_cons_zero, List.set_cons_succ]) | (refine x_val (v := ?_) (by rfl) (fun w' hx => ?_) ?_; rotate_left; (focus (go_simp; (try with_reducible rfl))); (try simp only [Act.put, List.setIfInBounds_toArray, List.set_cons_zero, List.set_cons_succ])))
              (first | (refine x_load _ (by rfl) rfl rfl (by assumption) (by kernel_rfl) ?_; simp only [Act.put, List.setIfInBounds_toArray, List.set_cons_zero, List.set_cons_succ]) | (refine x_val (v := ?_) (by rfl) (fun w' hx => ?_) ?_; rotate_left; (focus (go_simp; (try with_reducible rfl))); (try simp only [Act.put, List.setIfInBounds_toArray, List.set_cons_zero, List.set_cons_succ])))
              (first | (refine x_load _ (by rfl) rfl rfl (by assumption) (by kernel_rfl) ?_; simp only [Act.put, List.setIfInBounds_toArray, List.set_cons_zero, List.set_cons_succ]) | (refine x_val (v := ?_) (by rfl) (fun w' hx => ?_) ?_; rotate_left; (focus (go_simp; (try with_reducible rfl))); (try simp only [Act.put, List.setIfInBounds_toArray, List.set_cons_zero, List.set_cons_succ])))
              (first | (refine x_load _ (by rfl) rfl rfl (by assumption) (by kernel_rfl) ?_; simp only [Act.put, List.setIfInBounds_toArray, List.set_cons_zero, List.set_cons_succ]) | (refine x_val (v := ?_) (by rfl) (fun w' hx => ?_) ?_; rotate_left; (focus (go_simp; (try with_reducible rfl))); (try simp only [Act.put, List.setIfInBounds_toArray, List.set_cons_zero, List.set_cons_succ])))
              (first | (refine x_load _ (by rfl) rfl rfl (by assumption) (by kernel_rfl) ?_; simp only [Act.put, List.setIfInBounds_toArray, List.set_cons_zero, List.set_cons_succ]) | (refine x_val (v := ?_) (by rfl) (fun w' hx => ?_) ?_; rotate_left; (focus (go_simp; (try with_reducible rfl))); (try simp only [Act.put, List.setIfInBounds_toArray, List.set_cons_zero, List.set_cons_succ])))
              (first | (refine x_load _ (by rfl) rfl rfl (by assumption) (by kernel_rfl) ?_; simp only [Act.put, List.setIfInBounds_toArray, List.set_cons_zero, List.set_cons_succ]) | (refine x_val (v := ?_) (by rfl) (fun w' hx => ?_) ?_; rotate_left; (focus (go_simp; (try with_reducible rfl))); (try simp only [Act.put, List.setIfInBounds_toArray, List.set_cons_zero, List.set_cons_succ])))
              (first | (refine x_load _ (by rfl) rfl rfl (by assumption) (by kernel_rfl) ?_; simp only [Act.put, List.setIfInBounds_toArray, List.set_cons_zero, List.set_cons_succ]) | (refine x_val (v := ?_) (by rfl) (fun w' hx => ?_) ?_; rotate_left; (focus (go_simp; (try with_reducible rfl))); (try simp only [Act.put, List.setIfInBounds_toArray, List.set_cons_zero, List.set_cons_succ])))
              (first | (refine x_load _ (by rfl) rfl rfl (by assumption) (by kernel_rfl) ?_; simp only [Act.put, List.setIfInBounds_toArray, List.set_cons_zero, List.set_cons_succ]) | (refine x_val (v := ?_) (by rfl) (fun w' hx => ?_) ?_; rotate_left; (focus (go_simp; (try with_reducible rfl))); (try simp only [Act.put, List.setIfInBounds_toArray, List.set_cons_zero, List.set_cons_succ])))
              refine x_nil (hQ.out _ ?_); clear hQ QQ
              intro w2 hb2
              have J2 := Lib.hid (J1.out.below hb2)
              have BT2 := Lib.hid (BT1.out.trans (hb2.mono (Nat.le_of_lt hT1)))
              clear hb2 s0 s1 sf0 sf1 p0 p1 hT1
              obtain ⟨s0, s1, sf0, sf1⟩ := J2.out.facts
              have p0 := (BT2.out.cell (p := ⟨b, off + k * 2, none⟩) hbb).trans P0.out
              have p1 := (BT2.out.cell (p := ⟨b, off + k * 2 + 1, none⟩) hbb).trans P1.out
              go_wp2_with fail
              have J3 := Lib.hid (J2.out.set0 u)
              have BT3 := Lib.hid (BT2.out.setCell (p := ⟨T, 0, none⟩) (Nat.le_refl T) (.int .u64 (u : Int)))
              generalize w2.setCell ⟨T, 0, none⟩ (.int .u64 (u : Int)) = w3 at *
              clear s0 s1 sf0 sf1 p0 p1
              obtain ⟨s0, s1, sf0, sf1⟩ := J3.out.facts
              have p0 := (BT3.out.cell (p := ⟨b, off + k * 2, none⟩) hbb).trans P0.out
              have p1 := (BT3.out.cell (p := ⟨b, off + k * 2 + 1, none⟩) hbb).trans P1.out
              have hT3 := J3.out.blk.lt
              refine wp_ext (by kernel_rfl) (by kernel_rfl) (fun QQ hQ => ?_)
              (first | (refine x_load _ (by rfl) rfl rfl (by assumption) (by kernel_rfl) ?_; simp only [Act.put, List.setIfInBounds_toArray, List.set_cons_zero, List.set_cons_succ]) | (refine x_val (v := ?_) (by rfl) (fun w' hx => ?_) ?_; rotate_left; (focus (go_simp; (try with_reducible rfl))); (try simp only [Act.put, List.setIfInBounds_toArray, List.set_cons_zero, List.set_cons_succ])))
              (first | (refine x_load _ (by rfl) rfl rfl (by assumption) (by kernel_rfl) ?_; simp only [Act.put, List.setIfInBounds_toArray, List.set_cons_zero, List.set_cons_succ]) | (refine x_val (v := ?_) (by rfl) (fun w' hx => ?_) ?_; rotate_left; (focus (go_simp; (try with_reducible rfl))); (try simp only [Act.put, List.setIfInBounds_toArray, List.set_cons_zero, List.set_cons_succ])))
              (first | (refine x_load _ (by rfl) rfl rfl (by assumption) (by kernel_rfl) ?_; simp only [Act.put, List.setIfInBounds_toArray, List.set_cons_zero, List.set_cons_succ]) | (refine x_val (v := ?_) (by rfl) (fun w' hx => ?_) ?_; rotate_left; (focus (go_simp; (try with_reducible rfl))); (try simp only [Act.put, List.setIfInBounds_toArray, List.set_cons_zero, List.set_cons_succ])))
              (first | (refine x_load _ (by rfl) rfl rfl (by assumption) (by kernel_rfl) ?_; simp only [Act.put, List.setIfInBounds_toArray, List.set_cons_zero, List.set_cons_succ]) | (refine x_val (v := ?_) (by rfl) (fun w' hx => ?_) ?_; rotate_left; (focus (go_simp; (try with_reducible rfl))); (try simp only [Act.put, List.setIfInBounds_toArray, List.set_cons_zero, List.set_cons_succ])))
              (first | (refine x_load _ (by rfl) rfl rfl (by assumption) (by kernel_rfl) ?_; simp only [Act.put, List.setIfInBounds_toArray, List.set_cons_zero, List.set_cons_succ]) | (refine x_val (v := ?_) (by rfl) (fun w' hx => ?_) ?_; rotate_left; (focus (go_simp; (try with_reducible rfl))); (try simp only [Act.put, List.setIfInBounds_toArray, List.set_cons_zero, List.set_cons_succ])))
              (first | (refine x_load _ (by rfl) rfl rfl (by assumption) (by kernel_rfl) ?_; simp only [Act.put, List.setIfInBounds_toArray, List.set_cons_zero, List.set_cons_succ]) | (refine x_val (v := ?_) (by rfl) (fun w' hx => ?_) ?_; rotate_left; (focus (go_simp; (try with_reducible rfl))); (try simp only [Act.put, List.setIfInBounds_toArray, List.set_cons_zero, List.set_cons_succ])))
              (first | (refine x_load _ (by rfl) rfl rfl (by assumption) (by kernel_rfl) ?_; simp only [Act.put, List.setIfInBounds_toArray, List.set_cons_zero, List.set_cons_succ]) | (refine x_val (v := ?_) (by rfl) (fun w' hx => ?_) ?_; rotate_left; (focus (go_simp; (try with_reducible rfl))); (try simp only [Act.put, List.setIfInBounds_toArray, List.set_cons_zero, List.set_cons_succ])))
              (first | (refine x_load _ (by rfl) rfl rfl (by assumption) (by kernel_rfl) ?_; simp only [Act.put, List.setIfInBounds_toArray, List.set_cons_zero, List.set_cons_succ]) | (refine x_val (v := ?_) (by rfl) (fun w' hx => ?_) ?_; rotate_left; (focus (go_simp; (try with_reducible rfl))); (try simp only [Act.put, List.setIfInBounds_toArray, List.set_cons_zero, List.set_cons_succ])))
              refine x_nil (hQ.out _ ?_); clear hQ QQ
              intro w4 hb4
              have J4 := Lib.hid (J3.out.below hb4)
              have BT4 := Lib.hid (BT3.out.trans (hb4.mono (Nat.le_of_lt hT3)))
              clear hb4 s0 s1 sf0 sf1 p0 p1 hT3
              obtain ⟨s0, s1, sf0, sf1⟩ := J4.out.facts
              have p0 := (BT4.out.cell (p := ⟨b, off + k * 2, none⟩) hbb).trans P0.out
              have p1 := (BT4.out.cell (p := ⟨b, off + k * 2 + 1, none⟩) hbb).trans P1.out
              go_wp2_with fail
              have J5 := J4
              clear s0 s1 sf0 sf1 p0 p1
              go_roundw
              case rel => exact ⟨k + 1, u, y, o, by omega, by go_num, HST, Lib.hid J5.out.blk, Lib.hid J5.out.row, J5.out.bel⟩
              case measure => simp [intOf]; omega
          · by_cases c4 : y < v
            · skip
              have hmn : min u x = x := by omega
              have hmx : max v y = v := by omega
              rw [hmn, hmx] at hst
              have HST := Lib.hid hst
              have c3' : ¬ (u : Int) < (x : Int) := by omega
              have c4' : (y : Int) < (v : Int) := by omega
              have J0 := Lib.hid (JSt.mk hblk.out ho.out hbw : JSt w wr T x y _ o)
              have P0 := Lib.hid p0
              have P1 := Lib.hid p1
              clear hst hp hmn hmx hblk ho
              go_wp2_with fail
              refine wp_ext (by kernel_rfl) (by kernel_rfl) (fun QQ hQ => ?_)
              (first | (refine x_load _ (by rfl) rfl rfl (by assumption) (by kernel_rfl) ?_; simp only [Act.put, List.setIfInBounds_toArray, List.set_cons_zero, List.set_cons_succ]) | (refine x_val (v := ?_) (by rfl) (fun w' hx => ?_) ?_; rotate_left; (focus (go_simp; (try with_reducible rfl))); (try simp only [Act.put, List.setIfInBounds_toArray, List.set_cons_zero, List.set_cons_succ])))
              (first | (refine x_load _ (by rfl) rfl rfl (by assumption) (by kernel_rfl) ?_; simp only [Act.put, List.setIfInBounds_toArray, List.set_cons_zero, List.set_cons_succ]) | (refine x_val (v := ?_) (by rfl) (fun w' hx => ?_) ?_; rotate_left; (focus (go_simp; (try with_reducible rfl))); (try simp only [Act.put, List.setIfInBounds_toArray, List.set_cons_zero, List.set_cons_succ])))
              (first | (refine x_load _ (by rfl) rfl rfl (by assumption) (by kernel_rfl) ?_; simp only [Act.put, List.setIfInBounds_toArray, List.set_cons_zero, List.set_cons_succ]) | (refine x_val (v := ?_) (by rfl) (fun w' hx => ?_) ?_; rotate_left; (focus (go_simp; (try with_reducible rfl))); (try simp only [Act.put, List.setIfInBounds_toArray, List.set_cons_zero, List.set_cons_succ])))
              (first | (refine x_load _ (by rfl) rfl rfl (by assumption) (by kernel_rfl) ?_; simp only [Act.put, List.setIfInBounds_toArray, List.set_cons_zero, List.set_cons_succ]) | (refine x_val (v := ?_) (by rfl) (fun w' hx => ?_) ?_; rotate_left; (focus (go_simp; (try with_reducible rfl))); (try simp only [Act.put, List.setIfInBounds_toArray, List.set_cons_zero, List.set_cons_succ])))
              (first | (refine x_load _ (by rfl) rfl rfl (by assumption) (by kernel_rfl) ?_; simp only [Act.put, List.setIfInBounds_toArray, List.set_cons_zero, List.set_cons_succ]) | (refine x_val (v := ?_) (by rfl) (fun w' hx => ?_) ?_; rotate_left; (focus (go_simp; (try with_reducible rfl))); (try simp only [Act.put, List.setIfInBounds_toArray, List.set_cons_zero, List.set_cons_succ])))
              (first | (refine x_load _ (by rfl) rfl rfl (by assumption) (by kernel_rfl) ?_; simp only [Act.put, List.setIfInBounds_toArray, List.set_cons_zero, List.set_cons_succ]) | (refine x_val (v := ?_) (by rfl) (fun w' hx => ?_) ?_; rotate_left; (focus (go_simp; (try with_reducible rfl))); (try simp only [Act.put, List.setIfInBounds_toArray, List.set_cons_zero, List.set_cons_succ])))
              (first | (refine x_load _ (by rfl) rfl rfl (by assumption) (by kernel_rfl) ?_; simp only [Act.put, List.setIfInBounds_toArray, List.set_cons_zero, List.set_cons_succ]) | (refine x_val (v := ?_) (by rfl) (fun w' hx => ?_) ?_; rotate_left; (focus (go_simp; (try with_reducible rfl))); (try simp only [Act.put, List.setIfInBounds_toArray, List.set_cons_zero, List.set_cons_succ])))
              (first | (refine x_load _ (by rfl) rfl rfl (by assumption) (by kernel_rfl) ?_; simp only [Act.put, List.setIfInBounds_toArray, List.set_cons_zero, List.set_cons_succ]) | (refine x_val (v := ?_) (by rfl) (fun w' hx => ?_) ?_; rotate_left; (focus (go_simp; (try with_reducible rfl))); (try simp only [Act.put, List.setIfInBounds_toArray, List.set_cons_zero, List.set_cons_succ])))
              (first | (refine x_load _ (by rfl) rfl rfl (by assumption) (by kernel_rfl) ?_; simp only [Act.put, List.setIfInBounds_toArray, List.set_cons_zero, List.set_cons_succ]) | (refine x_val (v := ?_) (by rfl) (fun w' hx => ?_) ?_; rotate_left; (focus (go_simp; (try with_reducible rfl))); (try simp only [Act.put, List.setIfInBounds_toArray, List.set_cons_zero, List.set_cons_succ])))
              (first | (refine x_load _ (by rfl) rfl rfl (by assumption) (by kernel_rfl) ?_; simp only [Act.put, List.setIfInBounds_toArray, List.set_cons_zero, List.set_cons_succ]) | (refine x_val (v := ?_) (by rfl) (fun w' hx => ?_) ?_; rotate_left; (focus (go_simp; (try with_reducible rfl))); (try simp only [Act.put, List.setIfInBounds_toArray, List.set_cons_zero, List.set_cons_succ])))
              (first | (refine x_load _ (by rfl) rfl rfl (by assumption) (by kernel_rfl) ?_; simp only [Act.put, List.setIfInBounds_toArray, List.set_cons_zero, List.set_cons_succ]) | (refine x_val (v := ?_) (by rfl) (fun w' hx => ?_) ?_; rotate_left; (focus (go_simp; (try with_reducible rfl))); (try simp only [Act.put, List.setIfInBounds_toArray, List.set_cons_zero, List.set_cons_succ])))
              (first | (refine x_load _ (by rfl) rfl rfl (by assumption) (by kernel_rfl) ?_; simp only [Act.put, List.setIfInBounds_toArray, List.set_cons_zero, List.set_cons_succ]) | (refine x_val (v := ?_) (by rfl) (fun w' hx => ?_) ?_; rotate_left; (focus (go_simp; (try with_reducible rfl))); (try simp only [Act.put, List.setIfInBounds_toArray, List.set_cons_zero, List.set_cons_succ])))
              (first | (refine x_load _ (by rfl) rfl rfl (by assumption) (by kernel_rfl) ?_; simp only [Act.put, List.setIfInBounds_toArray, List.set_cons_zero, List.set_cons_succ]) | (refine x_val (v := ?_) (by rfl) (fun w' hx => ?_) ?_; rotate_left; (focus (go_simp; (try with_reducible rfl))); (try simp only [Act.put, List.setIfInBounds_toArray, List.set_cons_zero, List.set_cons_succ])))
              (first | (refine x_load _ (by rfl) rfl rfl (by assumption) (by kernel_rfl) ?_; simp only [Act.put, List.setIfInBounds_toArray, List.set_cons_zero, List.set_cons_succ]) | (refine x_val (v := ?_) (by rfl) (fun w' hx => ?_) ?_; rotate_left; (focus (go_simp; (try with_reducible rfl))); (try simp only [Act.put, List.setIfInBounds_toArray, List.set_cons_zero, List.set_cons_succ])))
              (first | (refine x_load _ (by rfl) rfl rfl (by assumption) (by kernel_rfl) ?_; simp only [Act.put, List.setIfInBounds_toArray, List.set_cons_zero, List.set_cons_succ]) | (refine x_val (v := ?_) (by rfl) (fun w' hx => ?_) ?_; rotate_left; (focus (go_simp; (try with_reducible rfl))); (try simp only [Act.put, List.setIfInBounds_toArray, List.set_cons_zero, List.set_cons_succ])))
              (first | (refine x_load _ (by rfl) rfl rfl (by assumption) (by kernel_rfl) ?_; simp only [Act.put, List.setIfInBounds_toArray, List.set_cons_zero, List.set_cons_succ]) | (refine x_val (v := ?_) (by rfl) (fun w' hx => ?_) ?_; rotate_left; (focus (go_simp; (try with_reducible rfl))); (try simp only [Act.put, List.setIfInBounds_toArray, List.set_cons_zero, List.set_cons_succ])))
              (first | (refine x_load _ (by rfl) rfl rfl (by assumption) (by kernel_rfl) ?_; simp only [Act.put, List.setIfInBounds_toArray, List.set_cons_zero, List.set_cons_succ]) | (refine x_val (v := ?_) (by rfl) (fun w' hx => ?_) ?_; rotate_left; (focus (go_simp; (try with_reducible rfl))); (try simp only [Act.put, List.setIfInBounds_toArray, List.set_cons_zero, List.set_cons_succ])))
              (first | (refine x_load _ (by rfl) rfl rfl (by assumption) (by kernel_rfl) ?_; simp only [Act.put, List.setIfInBounds_toArray, List.set_cons_zero, List.set_cons_succ]) | (refine x_val (v := ?_) (by rfl) (fun w' hx => ?_) ?_; rotate_left; (focus (go_simp; (try with_reducible rfl))); (try simp only [Act.put, List.setIfInBounds_toArray, List.set_cons_zero, List.set_cons_succ])))
              refine x_nil (hQ.out _ ?_); clear hQ QQ
              intro w1 hb1
              have J1 := Lib.hid (J0.out.below hb1)
              have BT1 := Lib.hid (hb1.mono (Nat.le_of_lt hTw))
              clear hb1 t0 t1 tf0 tf1 p0 p1
              obtain ⟨s0, s1, sf0, sf1⟩ := J1.out.facts
              have p0 := (BT1.out.cell (p := ⟨b, off + k * 2, none⟩) hbb).trans P0.out
              have p1 := (BT1.out.cell (p := ⟨b, off + k * 2 + 1, none⟩) hbb).trans P1.out
              have hT1 := J1.out.blk.lt
              go_wp2_with fail
              refine wp_ext (by kernel_rfl) (by kernel_rfl) (fun QQ hQ => ?_)
              (first | (refine x_load _ (by rfl) rfl rfl (by assumption) (by kernel_rfl) ?_; simp only [Act.put, List.setIfInBounds_toArray, List.set_cons_zero, List.set_cons_succ]) | (refine x_val (v := ?_) (by rfl) (fun w' hx => ?_) ?_; rotate_left; (focus (go_simp; (try with_reducible rfl))); (try simp only [Act.put, List.setIfInBounds_toArray, List.set_cons_zero, List.set_cons_succ])))
              (first | (refine x_load _ (by rfl) rfl rfl (by assumption) (by kernel_rfl) ?_; simp only [Act.put, List.setIfInBounds_toArray, List.set_cons_zero, List.set_cons_succ]) | (refine x_val (v := ?_) (by rfl) (fun w' hx => ?_) ?_; rotate_left; (focus (go_simp; (try with_reducible rfl))); (try simp only [Act.put, List.setIfInBounds_toArray, List.set_cons_zero, List.set_cons_succ])))
              (first | (refine x_load _ (by rfl) rfl rfl (by assumption) (by kernel_rfl) ?_; simp only [Act.put, List.setIfInBounds_toArray, List.set_cons_zero, List.set_cons_succ]) | (refine x_val (v := ?_) (by rfl) (fun w' hx => ?_) ?_; rotate_left; (focus (go_simp; (try with_reducible rfl))); (try simp only [Act.put, List.setIfInBounds_toArray, List.set_cons_zero, List.set_cons_succ])))
              (first | (refine x_load _ (by rfl) rfl rfl (by assumption) (by kernel_rfl) ?_; simp only [Act.put, List.setIfInBounds_toArray, List.set_cons_zero, List.set_cons_succ]) | (refine x_val (v := ?_) (by rfl) (fun w' hx => ?_) ?_; rotate_left; (focus (go_simp; (try with_reducible rfl))); (try simp only [Act.put, List.setIfInBounds_toArray, List.set_cons_zero, List.set_cons_succ])))
              (first | (refine x_load _ (by rfl) rfl rfl (by assumption) (by kernel_rfl) ?_; simp only [Act.put, List.setIfInBounds_toArray, List.set_cons_zero, List.set_cons_succ]) | (refine x_val (v := ?_) (by rfl) (fun w' hx => ?_) ?_; rotate_left; (focus (go_simp; (try with_reducible rfl))); (try simp only [Act.put, List.setIfInBounds_toArray, List.set_cons_zero, List.set_cons_succ])))
              (first | (refine x_load _ (by rfl) rfl rfl (by assumption) (by kernel_rfl) ?_; simp only [Act.put, List.setIfInBounds_toArray, List.set_cons_zero, List.set_cons_succ]) | (refine x_val (v := ?_) (by rfl) (fun w' hx => ?_) ?_; rotate_left; (focus (go_simp; (try with_reducible rfl))); (try simp only [Act.put, List.setIfInBounds_toArray, List.set_cons_zero, List.set_cons_succ])))
              (first | (refine x_load _ (by rfl) rfl rfl (by assumption) (by kernel_rfl) ?_; simp only [Act.put, List.setIfInBounds_toArray, List.set_cons_zero, List.set_cons_succ]) | (refine x_val (v := ?_) (by rfl) (fun w' hx => ?_) ?_; rotate_left; (focus (go_simp; (try with_reducible rfl))); (try simp only [Act.put, List.setIfInBounds_toArray, List.set_cons_zero, List.set_cons_succ])))
              (first | (refine x_load _ (by rfl) rfl rfl (by assumption) (by kernel_rfl) ?_; simp only [Act.put, List.setIfInBounds_toArray, List.set_cons_zero, List.set_cons_succ]) | (refine x_val (v := ?_) (by rfl) (fun w' hx => ?_) ?_; rotate_left; (focus (go_simp; (try with_reducible rfl))); (try simp only [Act.put, List.setIfInBounds_toArray, List.set_cons_zero, List.set_cons_succ])))
              refine x_nil (hQ.out _ ?_); clear hQ QQ
              intro w2 hb2
              have J2 := Lib.hid (J1.out.below hb2)
              have BT2 := Lib.hid (BT1.out.trans (hb2.mono (Nat.le_of_lt hT1)))
              clear hb2 s0 s1 sf0 sf1 p0 p1 hT1
              obtain ⟨s0, s1, sf0, sf1⟩ := J2.out.facts
              have p0 := (BT2.out.cell (p := ⟨b, off + k * 2, none⟩) hbb).trans P0.out
              have p1 := (BT2.out.cell (p := ⟨b, off + k * 2 + 1, none⟩) hbb).trans P1.out
              go_wp2_with fail
              have J3 := J2
              have BT3 := BT2
              clear s0 s1 sf0 sf1 p0 p1
              obtain ⟨s0, s1, sf0, sf1⟩ := J3.out.facts
              have p0 := (BT3.out.cell (p := ⟨b, off + k * 2, none⟩) hbb).trans P0.out
              have p1 := (BT3.out.cell (p := ⟨b, off + k * 2 + 1, none⟩) hbb).trans P1.out
              have hT3 := J3.out.blk.lt
              refine wp_ext (by kernel_rfl) (by kernel_rfl) (fun QQ hQ => ?_)
              (first | (refine x_load _ (by rfl) rfl rfl (by assumption) (by kernel_rfl) ?_; simp only [Act.put, List.setIfInBounds_toArray, List.set_cons_zero, List.set_cons_succ]) | (refine x_val (v := ?_) (by rfl) (fun w' hx => ?_) ?_; rotate_left; (focus (go_simp; (try with_reducible rfl))); (try simp only [Act.put, List.setIfInBounds_toArray, List.set_cons_zero, List.set_cons_succ])))
              (first | (refine x_load _ (by rfl) rfl rfl (by assumption) (by kernel_rfl) ?_; simp only [Act.put, List.setIfInBounds_toArray, List.set_cons_zero, List.set_cons_succ]) | (refine x_val (v := ?_) (by rfl) (fun w' hx => ?_) ?_; rotate_left; (focus (go_simp; (try with_reducible rfl))); (try simp only [Act.put, List.setIfInBounds_toArray, List.set_cons_zero, List.set_cons_succ])))
              (first | (refine x_load _ (by rfl) rfl rfl (by assumption) (by kernel_rfl) ?_; simp only [Act.put, List.setIfInBounds_toArray, List.set_cons_zero, List.set_cons_succ]) | (refine x_val (v := ?_) (by rfl) (fun w' hx => ?_) ?_; rotate_left; (focus (go_simp; (try with_reducible rfl))); (try simp only [Act.put, List.setIfInBounds_toArray, List.set_cons_zero, List.set_cons_succ])))
              (first | (refine x_load _ (by rfl) rfl rfl (by assumption) (by kernel_rfl) ?_; simp only [Act.put, List.setIfInBounds_toArray, List.set_cons_zero, List.set_cons_succ]) | (refine x_val (v := ?_) (by rfl) (fun w' hx => ?_) ?_; rotate_left; (focus (go_simp; (try with_reducible rfl))); (try simp only [Act.put, List.setIfInBounds_toArray, List.set_cons_zero, List.set_cons_succ])))
              (first | (refine x_load _ (by rfl) rfl rfl (by assumption) (by kernel_rfl) ?_; simp only [Act.put, List.setIfInBounds_toArray, List.set_cons_zero, List.set_cons_succ]) | (refine x_val (v := ?_) (by rfl) (fun w' hx => ?_) ?_; rotate_left; (focus (go_simp; (try with_reducible rfl))); (try simp only [Act.put, List.setIfInBounds_toArray, List.set_cons_zero, List.set_cons_succ])))
              (first | (refine x_load _ (by rfl) rfl rfl (by assumption) (by kernel_rfl) ?_; simp only [Act.put, List.setIfInBounds_toArray, List.set_cons_zero, List.set_cons_succ]) | (refine x_val (v := ?_) (by rfl) (fun w' hx => ?_) ?_; rotate_left; (focus (go_simp; (try with_reducible rfl))); (try simp only [Act.put, List.setIfInBounds_toArray, List.set_cons_zero, List.set_cons_succ])))
              (first | (refine x_load _ (by rfl) rfl rfl (by assumption) (by kernel_rfl) ?_; simp only [Act.put, List.setIfInBounds_toArray, List.set_cons_zero, List.set_cons_succ]) | (refine x_val (v := ?_) (by rfl) (fun w' hx => ?_) ?_; rotate_left; (focus (go_simp; (try with_reducible rfl))); (try simp only [Act.put, List.setIfInBounds_toArray, List.set_cons_zero, List.set_cons_succ])))
              (first | (refine x_load _ (by rfl) rfl rfl (by assumption) (by kernel_rfl) ?_; simp only [Act.put, List.setIfInBounds_toArray, List.set_cons_zero, List.set_cons_succ]) | (refine x_val (v := ?_) (by rfl) (fun w' hx => ?_) ?_; rotate_left; (focus (go_simp; (try with_reducible rfl))); (try simp only [Act.put, List.setIfInBounds_toArray, List.set_cons_zero, List.set_cons_succ])))
              refine x_nil (hQ.out _ ?_); clear hQ QQ
              intro w4 hb4
              have J4 := Lib.hid (J3.out.below hb4)
              have BT4 := Lib.hid (BT3.out.trans (hb4.mono (Nat.le_of_lt hT3)))
              clear hb4 s0 s1 sf0 sf1 p0 p1 hT3
              obtain ⟨s0, s1, sf0, sf1⟩ := J4.out.facts
              have p0 := (BT4.out.cell (p := ⟨b, off + k * 2, none⟩) hbb).trans P0.out
              have p1 := (BT4.out.cell (p := ⟨b, off + k * 2 + 1, none⟩) hbb).trans P1.out
              go_wp2_with fail
              have J5 := Lib.hid (J4.out.set1 v)
              clear s0 s1 sf0 sf1 p0 p1
              go_roundw
              case rel => exact ⟨k + 1, x, v, o, by omega, by go_num, HST, Lib.hid J5.out.blk, Lib.hid J5.out.row, J5.out.bel⟩
              case measure => simp [intOf]; omega
            · skip
              have hmn : min u x = x := by omega
              have hmx : max v y = y := by omega
              rw [hmn, hmx] at hst
              have HST := Lib.hid hst
              have c3' : ¬ (u : Int) < (x : Int) := by omega
              have c4' : ¬ (y : Int) < (v : Int) := by omega
              have J0 := Lib.hid (JSt.mk hblk.out ho.out hbw : JSt w wr T x y _ o)
              have P0 := Lib.hid p0
              have P1 := Lib.hid p1
              clear hst hp hmn hmx hblk ho
              go_wp2_with fail
              refine wp_ext (by kernel_rfl) (by kernel_rfl) (fun QQ hQ => ?_)
              (first | (refine x_load _ (by rfl) rfl rfl (by assumption) (by kernel_rfl) ?_; simp only [Act.put, List.setIfInBounds_toArray, List.set_cons_zero, List.set_cons_succ]) | (refine x_val (v := ?_) (by rfl) (fun w' hx => ?_) ?_; rotate_left; (focus (go_simp; (try with_reducible rfl))); (try simp only [Act.put, List.setIfInBounds_toArray, List.set_cons_zero, List.set_cons_succ])))
              (first | (refine x_load _ (by rfl) rfl rfl (by assumption) (by kernel_rfl) ?_; simp only [Act.put, List.setIfInBounds_toArray, List.set_cons_zero, List.set_cons_succ]) | (refine x_val (v := ?_) (by rfl) (fun w' hx => ?_) ?_; rotate_left; (focus (go_simp; (try with_reducible rfl))); (try simp only [Act.put, List.setIfInBounds_toArray, List.set_cons_zero, List.set_cons_succ])))
              (first | (refine x_load _ (by rfl) rfl rfl (by assumption) (by kernel_rfl) ?_; simp only [Act.put, List.setIfInBounds_toArray, List.set_cons_zero, List.set_cons_succ]) | (refine x_val (v := ?_) (by rfl) (fun w' hx => ?_) ?_; rotate_left; (focus (go_simp; (try with_reducible rfl))); (try simp only [Act.put, List.setIfInBounds_toArray, List.set_cons_zero, List.set_cons_succ])))
              (first | (refine x_load _ (by rfl) rfl rfl (by assumption) (by kernel_rfl) ?_; simp only [Act.put, List.setIfInBounds_toArray, List.set_cons_zero, List.set_cons_succ]) | (refine x_val (v := ?_) (by rfl) (fun w' hx => ?_) ?_; rotate_left; (focus (go_simp; (try with_reducible rfl))); (try simp only [Act.put, List.setIfInBounds_toArray, List.set_cons_zero, List.set_cons_succ])))
              (first | (refine x_load _ (by rfl) rfl rfl (by assumption) (by kernel_rfl) ?_; simp only [Act.put, List.setIfInBounds_toArray, List.set_cons_zero, List.set_cons_succ]) | (refine x_val (v := ?_) (by rfl) (fun w' hx => ?_) ?_; rotate_left; (focus (go_simp; (try with_reducible rfl))); (try simp only [Act.put, List.setIfInBounds_toArray, List.set_cons_zero, List.set_cons_succ])))
              (first | (refine x_load _ (by rfl) rfl rfl (by assumption) (by kernel_rfl) ?_; simp only [Act.put, List.setIfInBounds_toArray, List.set_cons_zero, List.set_cons_succ]) | (refine x_val (v := ?_) (by rfl) (fun w' hx => ?_) ?_; rotate_left; (focus (go_simp; (try with_reducible rfl))); (try simp only [Act.put, List.setIfInBounds_toArray, List.set_cons_zero, List.set_cons_succ])))
              (first | (refine x_load _ (by rfl) rfl rfl (by assumption) (by kernel_rfl) ?_; simp only [Act.put, List.setIfInBounds_toArray, List.set_cons_zero, List.set_cons_succ]) | (refine x_val (v := ?_) (by rfl) (fun w' hx => ?_) ?_; rotate_left; (focus (go_simp; (try with_reducible rfl))); (try simp only [Act.put, List.setIfInBounds_toArray, List.set_cons_zero, List.set_cons_succ])))
              (first | (refine x_load _ (by rfl) rfl rfl (by assumption) (by kernel_rfl) ?_; simp only [Act.put, List.setIfInBounds_toArray, List.set_cons_zero, List.set_cons_succ]) | (refine x_val (v := ?_) (by rfl) (fun w' hx => ?_) ?_; rotate_left; (focus (go_simp; (try with_reducible rfl))); (try simp only [Act.put, List.setIfInBounds_toArray, List.set_cons_zero, List.set_cons_succ])))
              (first | (refine x_load _ (by rfl) rfl rfl (by assumption) (by kernel_rfl) ?_; simp only [Act.put, List.setIfInBounds_toArray, List.set_cons_zero, List.set_cons_succ]) | (refine x_val (v := ?_) (by rfl) (fun w' hx => ?_) ?_; rotate_left; (focus (go_simp; (try with_reducible rfl))); (try simp only [Act.put, List.setIfInBounds_toArray, List.set_cons_zero, List.set_cons_succ])))
              (first | (refine x_load _ (by rfl) rfl rfl (by assumption) (by kernel_rfl) ?_; simp only [Act.put, List.setIfInBounds_toArray, List.set_cons_zero, List.set_cons_succ]) | (refine x_val (v := ?_) (by rfl) (fun w' hx => ?_) ?_; rotate_left; (focus (go_simp; (try with_reducible rfl))); (try simp only [Act.put, List.setIfInBounds_toArray, List.set_cons_zero, List.set_cons_succ])))
              (first | (refine x_load _ (by rfl) rfl rfl (by assumption) (by kernel_rfl) ?_; simp only [Act.put, List.setIfInBounds_toArray, List.set_cons_zero, List.set_cons_succ]) | (refine x_val (v := ?_) (by rfl) (fun w' hx => ?_) ?_; rotate_left; (focus (go_simp; (try with_reducible rfl))); (try simp only [Act.put, List.setIfInBounds_toArray, List.set_cons_zero, List.set_cons_succ])))
              (first | (refine x_load _ (by rfl) rfl rfl (by assumption) (by kernel_rfl) ?_; simp only [Act.put, List.setIfInBounds_toArray, List.set_cons_zero, List.set_cons_succ]) | (refine x_val (v := ?_) (by rfl) (fun w' hx => ?_) ?_; rotate_left; (focus (go_simp; (try with_reducible rfl))); (try simp only [Act.put, List.setIfInBounds_toArray, List.set_cons_zero, List.set_cons_succ])))
              (first | (refine x_load _ (by rfl) rfl rfl (by assumption) (by kernel_rfl) ?_; simp only [Act.put, List.setIfInBounds_toArray, List.set_cons_zero, List.set_cons_succ]) | (refine x_val (v := ?_) (by rfl) (fun w' hx => ?_) ?_; rotate_left; (focus (go_simp; (try with_reducible rfl))); (try simp only [Act.put, List.setIfInBounds_toArray, List.set_cons_zero, List.set_cons_succ])))
              (first | (refine x_load _ (by rfl) rfl rfl (by assumption) (by kernel_rfl) ?_; simp only [Act.put, List.setIfInBounds_toArray, List.set_cons_zero, List.set_cons_succ]) | (refine x_val (v := ?_) (by rfl) (fun w' hx => ?_) ?_; rotate_left; (focus (go_simp; (try with_reducible rfl))); (try simp only [Act.put, List.setIfInBounds_toArray, List.set_cons_zero, List.set_cons_succ])))
              (first | (refine x_load _ (by rfl) rfl rfl (by assumption) (by kernel_rfl) ?_; simp only [Act.put, List.setIfInBounds_toArray, List.set_cons_zero, List.set_cons_succ]) | (refine x_val (v := ?_) (by rfl) (fun w' hx => ?_) ?_; rotate_left; (focus (go_simp; (try with_reducible rfl))); (try simp only [Act.put, List.setIfInBounds_toArray, List.set_cons_zero, List.set_cons_succ])))
              (first | (refine x_load _ (by rfl) rfl rfl (by assumption) (by kernel_rfl) ?_; simp only [Act.put, List.setIfInBounds_toArray, List.set_cons_zero, List.set_cons_succ]) | (refine x_val (v := ?_) (by rfl) (fun w' hx => ?_) ?_; rotate_left; (focus (go_simp; (try with_reducible rfl))); (try simp only [Act.put, List.setIfInBounds_toArray, List.set_cons_zero, List.set_cons_succ])))
              (first | (refine x_load _ (by rfl) rfl rfl (by assumption) (by kernel_rfl) ?_; simp only [Act.put, List.setIfInBounds_toArray, List.set_cons_zero, List.set_cons_succ]) | (refine x_val (v := ?_) (by rfl) (fun w' hx => ?_) ?_; rotate_left; (focus (go_simp; (try with_reducible rfl))); (try simp only [Act.put, List.setIfInBounds_toArray, List.set_cons_zero, List.set_cons_succ])))
              (first | (refine x_load _ (by rfl) rfl rfl (by assumption) (by kernel_rfl) ?_; simp only [Act.put, List.setIfInBounds_toArray, List.set_cons_zero, List.set_cons_succ]) | (refine x_val (v := ?_) (by rfl) (fun w' hx => ?_) ?_; rotate_left; (focus (go_simp; (try with_reducible rfl))); (try simp only [Act.put, List.setIfInBounds_toArray, List.set_cons_zero, List.set_cons_succ])))
              refine x_nil (hQ.out _ ?_); clear hQ QQ
              intro w1 hb1
              have J1 := Lib.hid (J0.out.below hb1)
              have BT1 := Lib.hid (hb1.mono (Nat.le_of_lt hTw))
              clear hb1 t0 t1 tf0 tf1 p0 p1
              obtain ⟨s0, s1, sf0, sf1⟩ := J1.out.facts
              have p0 := (BT1.out.cell (p := ⟨b, off + k * 2, none⟩) hbb).trans P0.out
              have p1 := (BT1.out.cell (p := ⟨b, off + k * 2 + 1, none⟩) hbb).trans P1.out
              have hT1 := J1.out.blk.lt
              go_wp2_with fail
              refine wp_ext (by kernel_rfl) (by kernel_rfl) (fun QQ hQ => ?_)
              (first | (refine x_load _ (by rfl) rfl rfl (by assumption) (by kernel_rfl) ?_; simp only [Act.put, List.setIfInBounds_toArray, List.set_cons_zero, List.set_cons_succ]) | (refine x_val (v := ?_) (by rfl) (fun w' hx => ?_) ?_; rotate_left; (focus (go_simp; (try with_reducible rfl))); (try simp only [Act.put, List.setIfInBounds_toArray, List.set_cons_zero, List.set_cons_succ])))
              (first | (refine x_load _ (by rfl) rfl rfl (by assumption) (by kernel_rfl) ?_; simp only [Act.put, List.setIfInBounds_toArray, List.set_cons_zero, List.set_cons_succ]) | (refine x_val (v := ?_) (by rfl) (fun w' hx => ?_) ?_; rotate_left; (focus (go_simp; (try with_reducible rfl))); (try simp only [Act.put, List.setIfInBounds_toArray, List.set_cons_zero, List.set_cons_succ])))
              (first | (refine x_load _ (by rfl) rfl rfl (by assumption) (by kernel_rfl) ?_; simp only [Act.put, List.setIfInBounds_toArray, List.set_cons_zero, List.set_cons_succ]) | (refine x_val (v := ?_) (by rfl) (fun w' hx => ?_) ?_; rotate_left; (focus (go_simp; (try with_reducible rfl))); (try simp only [Act.put, List.setIfInBounds_toArray, List.set_cons_zero, List.set_cons_succ])))
              (first | (refine x_load _ (by rfl) rfl rfl (by assumption) (by kernel_rfl) ?_; simp only [Act.put, List.setIfInBounds_toArray, List.set_cons_zero, List.set_cons_succ]) | (refine x_val (v := ?_) (by rfl) (fun w' hx => ?_) ?_; rotate_left; (focus (go_simp; (try with_reducible rfl))); (try simp only [Act.put, List.setIfInBounds_toArray, List.set_cons_zero, List.set_cons_succ])))
              (first | (refine x_load _ (by rfl) rfl rfl (by assumption) (by kernel_rfl) ?_; simp only [Act.put, List.setIfInBounds_toArray, List.set_cons_zero, List.set_cons_succ]) | (refine x_val (v := ?_) (by rfl) (fun w' hx => ?_) ?_; rotate_left; (focus (go_simp; (try with_reducible rfl))); (try simp only [Act.put, List.setIfInBounds_toArray, List.set_cons_zero, List.set_cons_succ])))
              (first | (refine x_load _ (by rfl) rfl rfl (by assumption) (by kernel_rfl) ?_; simp only [Act.put, List.setIfInBounds_toArray, List.set_cons_zero, List.set_cons_succ]) | (refine x_val (v := ?_) (by rfl) (fun w' hx => ?_) ?_; rotate_left; (focus (go_simp; (try with_reducible rfl))); (try simp only [Act.put, List.setIfInBounds_toArray, List.set_cons_zero, List.set_cons_succ])))
              (first | (refine x_load _ (by rfl) rfl rfl (by assumption) (by kernel_rfl) ?_; simp only [Act.put, List.setIfInBounds_toArray, List.set_cons_zero, List.set_cons_succ]) | (refine x_val (v := ?_) (by rfl) (fun w' hx => ?_) ?_; rotate_left; (focus (go_simp; (try with_reducible rfl))); (try simp only [Act.put, List.setIfInBounds_toArray, List.set_cons_zero, List.set_cons_succ])))
              (first | (refine x_load _ (by rfl) rfl rfl (by assumption) (by kernel_rfl) ?_; simp only [Act.put, List.setIfInBounds_toArray, List.set_cons_zero, List.set_cons_succ]) | (refine x_val (v := ?_) (by rfl) (fun w' hx => ?_) ?_; rotate_left; (focus (go_simp; (try with_reducible rfl))); (try simp only [Act.put, List.setIfInBounds_toArray, List.set_cons_zero, List.set_cons_succ])))
              refine x_nil (hQ.out _ ?_); clear hQ QQ
              intro w2 hb2
              have J2 := Lib.hid (J1.out.below hb2)
              have BT2 := Lib.hid (BT1.out.trans (hb2.mono (Nat.le_of_lt hT1)))
              clear hb2 s0 s1 sf0 sf1 p0 p1 hT1
              obtain ⟨s0, s1, sf0, sf1⟩ := J2.out.facts
              have p0 := (BT2.out.cell (p := ⟨b, off + k * 2, none⟩) hbb).trans P0.out
              have p1 := (BT2.out.cell (p := ⟨b, off + k * 2 + 1, none⟩) hbb).trans P1.out
              go_wp2_with fail
              have J3 := J2
              have BT3 := BT2
              clear s0 s1 sf0 sf1 p0 p1
              obtain ⟨s0, s1, sf0, sf1⟩ := J3.out.facts
              have p0 := (BT3.out.cell (p := ⟨b, off + k * 2, none⟩) hbb).trans P0.out
              have p1 := (BT3.out.cell (p := ⟨b, off + k * 2 + 1, none⟩) hbb).trans P1.out
              have hT3 := J3.out.blk.lt
              refine wp_ext (by kernel_rfl) (by kernel_rfl) (fun QQ hQ => ?_)
              (first | (refine x_load _ (by rfl) rfl rfl (by assumption) (by kernel_rfl) ?_; simp only [Act.put, List.setIfInBounds_toArray, List.set_cons_zero, List.set_cons_succ]) | (refine x_val (v := ?_) (by rfl) (fun w' hx => ?_) ?_; rotate_left; (focus (go_simp; (try with_reducible rfl))); (try simp only [Act.put, List.setIfInBounds_toArray, List.set_cons_zero, List.set_cons_succ])))
              (first | (refine x_load _ (by rfl) rfl rfl (by assumption) (by kernel_rfl) ?_; simp only [Act.put, List.setIfInBounds_toArray, List.set_cons_zero, List.set_cons_succ]) | (refine x_val (v := ?_) (by rfl) (fun w' hx => ?_) ?_; rotate_left; (focus (go_simp; (try with_reducible rfl))); (try simp only [Act.put, List.setIfInBounds_toArray, List.set_cons_zero, List.set_cons_succ])))
              (first | (refine x_load _ (by rfl) rfl rfl (by assumption) (by kernel_rfl) ?_; simp only [Act.put, List.setIfInBounds_toArray, List.set_cons_zero, List.set_cons_succ]) | (refine x_val (v := ?_) (by rfl) (fun w' hx => ?_) ?_; rotate_left; (focus (go_simp; (try with_reducible rfl))); (try simp only [Act.put, List.setIfInBounds_toArray, List.set_cons_zero, List.set_cons_succ])))
              (first | (refine x_load _ (by rfl) rfl rfl (by assumption) (by kernel_rfl) ?_; simp only [Act.put, List.setIfInBounds_toArray, List.set_cons_zero, List.set_cons_succ]) | (refine x_val (v := ?_) (by rfl) (fun w' hx => ?_) ?_; rotate_left; (focus (go_simp; (try with_reducible rfl))); (try simp only [Act.put, List.setIfInBounds_toArray, List.set_cons_zero, List.set_cons_succ])))
              (first | (refine x_load _ (by rfl) rfl rfl (by assumption) (by kernel_rfl) ?_; simp only [Act.put, List.setIfInBounds_toArray, List.set_cons_zero, List.set_cons_succ]) | (refine x_val (v := ?_) (by rfl) (fun w' hx => ?_) ?_; rotate_left; (focus (go_simp; (try with_reducible rfl))); (try simp only [Act.put, List.setIfInBounds_toArray, List.set_cons_zero, List.set_cons_succ])))
              (first | (refine x_load _ (by rfl) rfl rfl (by assumption) (by kernel_rfl) ?_; simp only [Act.put, List.setIfInBounds_toArray, List.set_cons_zero, List.set_cons_succ]) | (refine x_val (v := ?_) (by rfl) (fun w' hx => ?_) ?_; rotate_left; (focus (go_simp; (try with_reducible rfl))); (try simp only [Act.put, List.setIfInBounds_toArray, List.set_cons_zero, List.set_cons_succ])))
              (first | (refine x_load _ (by rfl) rfl rfl (by assumption) (by kernel_rfl) ?_; simp only [Act.put, List.setIfInBounds_toArray, List.set_cons_zero, List.set_cons_succ]) | (refine x_val (v := ?_) (by rfl) (fun w' hx => ?_) ?_; rotate_left; (focus (go_simp; (try with_reducible rfl))); (try simp only [Act.put, List.setIfInBounds_toArray, List.set_cons_zero, List.set_cons_succ])))
              (first | (refine x_load _ (by rfl) rfl rfl (by assumption) (by kernel_rfl) ?_; simp only [Act.put, List.setIfInBounds_toArray, List.set_cons_zero, List.set_cons_succ]) | (refine x_val (v := ?_) (by rfl) (fun w' hx => ?_) ?_; rotate_left; (focus (go_simp; (try with_reducible rfl))); (try simp only [Act.put, List.setIfInBounds_toArray, List.set_cons_zero, List.set_cons_succ])))
              refine x_nil (hQ.out _ ?_); clear hQ QQ
              intro w4 hb4
              have J4 := Lib.hid (J3.out.below hb4)
              have BT4 := Lib.hid (BT3.out.trans (hb4.mono (Nat.le_of_lt hT3)))
              clear hb4 s0 s1 sf0 sf1 p0 p1 hT3
              obtain ⟨s0, s1, sf0, sf1⟩ := J4.out.facts
              have p0 := (BT4.out.cell (p := ⟨b, off + k * 2, none⟩) hbb).trans P0.out
              have p1 := (BT4.out.cell (p := ⟨b, off + k * 2 + 1, none⟩) hbb).trans P1.out
              go_wp2_with fail
              have J5 := J4
              clear s0 s1 sf0 sf1 p0 p1
              go_roundw
              case rel => exact ⟨k + 1, x, y, o, by omega, by go_num, HST, Lib.hid J5.out.blk, Lib.hid J5.out.row, J5.out.bel⟩
              case measure => simp [intOf]; omega
    · have hge : ¬ (k : Int) < (n : Int) := by omega
      have hfin : joinK l (f, t) l.length = (o, (x, y)) := by rw [HL.out, show n = k by omega]; exact hj.out
      rw [HJ.out] at hfin
      have ho1 : joinM l f t = o := congrArg Prod.fst hfin
      have hx1 : joinX l f t = (x, y) := congrArg Prod.snd hfin
      have hML := (joinM_len l f t).1
      have htop := join_top (l := l) (f := f) (t := t)
      have hgt := fun (i : Nat) (hi : spAt l f ≤ i) (p : Sp) hp => join_gt HRI.out HLT.out (i := i) hi (p := p) hp
      have hlo := fun (i : Nat) (hi : i < spAt l f) (p : Sp) hp => join_lt (t := t) HRI.out (i := i) hi (p := p) hp
      rw [ho1, hx1] at htop hgt hlo
      rw [ho1] at hML
      dsimp only at hgt hlo
      obtain ⟨a, ha⟩ : ∃ a, a = spAt l f := ⟨_, rfl⟩
      rw [← ha] at htop hgt hlo hML
      have HTOP := Lib.hid htop
      have HGT := Lib.hid hgt
      have HLO := Lib.hid hlo
      clear hfin ho1 hx1 htop hgt hlo ha hj hlt hl7
      go_wp2_with (at_builtin; refine app1p prfEl x y rfl (.tmp 67) (.tmp 69) rfl rfl ho.out rfl rfl hroom hTw ?_)
      intro v2 w2 ho2 hg2 hb2
      have HBW2 := Lib.hid (hbw.trans (hb2.mono (Nat.le_succ T)))
      clear hg2 hb2 t0 t1 tf0 tf1 hblk ho hTw hbw
      obtain ⟨m, hm⟩ : ∃ m, m = o.length := ⟨_, rfl⟩
      have hlen2 : (o ++ [(x, y)]).length = m + 1 := by rw [List.length_append, hm]; rfl
      unfold Pcs at ho2
      rcases own_open ho2 with ⟨_, h0, _⟩ | ⟨g2, c2, L2, rfl, hBg2, _, hnc2, hcm2, _, _⟩
      · omega
      rw [hlen2] at ho2 hnc2 ⊢
      unfold maxLen at hcm2
      have HO2 := Lib.hid (show Pcs w2 79 (T + 1) (.slice (some ⟨g2, 0, none⟩) (m + 1) c2) (insAt o m (x, y)) from by rw [hm, insAt_end, ← hm]; unfold Pcs; rw [hlen2]; exact ho2)
      have HM := Lib.hid hm
      rw [← hm] at hML hol
      clear ho2 hlen2 hm
      obtain ⟨n2, hn2⟩ : ∃ n2, n2 = m + 1 := ⟨_, rfl⟩
      rw [← hn2] at HO2 hnc2 ⊢
      have em : (n2 : Int) - 1 = (m : Int) := by omega
      have HN2 := Lib.hid hn2
      clear hn2
      go_wp2_with fail
      clear em
      go_loopw [7] (fun iv wr => ∃ i : Nat, a ≤ i ∧ i ≤ m ∧ iv = .int .i64 i ∧ Hid (Pcs wr 79 (T + 1) (.slice (some ⟨g2, 0, none⟩) n2 c2) (insAt o i (x, y))) ∧ Below T w wr) (fun iv _ => (intOf iv).toNat)
      case atStart => exact ⟨m, hML, Nat.le_refl _, by go_num, HO2, HBW2.out⟩
      case round =>
        obtain ⟨i, hai, him, rfl, hrow, hbw⟩ := hrel
        clear HO2 HBW2
        by_cases hi0 : 0 < i
        · have hi0' : (0 : Int) < (i : Int) := by omega
          obtain ⟨j, hj⟩ : ∃ j, j = i - 1 := ⟨_, rfl⟩
          have e1 : IntKind.i64.wrap ((i : Int) - 1) = (j : Int) := by rw [IntKind.wrap_i64]; omega
          have e2 : IntKind.i64.wrap (j : Int) = (j : Int) := by rw [IntKind.wrap_i64]; omega
          have e0 : (i : Int) - 1 = (j : Int) := by omega
          have e00 : i - 1 = j := by omega
          have HJI := Lib.hid hj
          clear hj
          have hlenI := insAt_len o i (x, y) (by rw [← HM.out]; exact him)
          rw [← HM.out, ← HN2.out] at hlenI
          have hn2 := HN2.out
          have hrd := Rd.of_own (show wr.ownsRow (T + 1) 79 2 (.slice (some ⟨g2, 0, none⟩) n2 c2) n2 (cels (insAt o i (x, y))) from by have := hrow.out; unfold Pcs at this; rwa [hlenI] at this)
          have hin : i < n2 := by omega
          have hjn : j < n2 := by have := HJI.out; omega
          clear hn2
          obtain ⟨b1, off1, x1, y1, eb1, hbb1, p0, p1, hp⟩ := hrd.pc hin
          obtain ⟨b2, off2, u, v, eb2, hbb2, q0, q1, hq⟩ := hrd.pc hjn
          injection eb1 with eb1
          injection eb1 with eb1 eo1
          injection eb2 with eb2
          injection eb2 with eb2 eo2
          subst eb1 eo1 eb2 eo2
          simp only [Nat.zero_add] at p0 p1 q0 q1
          have hxx : (x1, y1) = (x, y) := by
            have h1 := hp.out
            rw [insAt_here (by rw [← HM.out]; exact him)] at h1
            injection h1 with h1
            exact h1.symm
          injection hxx with hx1 hy1
          subst hx1 hy1
          have hoj : o[j]? = some (u, v) := by
            have h1 := hq.out
            rwa [insAt_before (by rw [← HM.out]; exact him) (by have := HJI.out; omega)] at h1
          by_cases haj : a ≤ j
          · have hxu := HGT.out j haj _ hoj
            dsimp only at hxu
            have hxu' : (x1 : Int) < (u : Int) := by omega
            have HOJ := Lib.hid hoj
            clear hoj hp hq hrd hxu
            go_wp2_with fail
            go_quiet (fail)
            go_wp2_with fail
            refine wp_ord [(0, .pure), (1, .pure), (2, .pure), (3, .pure), (4, .pure), (5, .pure), (6, .pure), (7, .pure), (8, .pure), (9, .read), (10, .pure), (11, .pure), (12, .pure), (13, .read), (14, .pure), (15, .sole), (16, .pure), (17, .sole)] [15, 17] (by kernel_rfl) (by kernel_rfl) (fun QQ hQ wd hwd => ?_); simp only [List.map_cons, List.map_nil, List.getD_cons_zero, List.getD_cons_succ]
            have hrow' : Pcs wd 79 (T + 1) (.slice (some ⟨g2, 0, none⟩) n2 c2) (insAt o i (x1, y1)) := by rw [hwd.out]; exact hrow.out
            have pp0 : wd.cell? ⟨g2, i * 2, none⟩ = some (.int .u64 (x1 : Int)) := by rw [hwd.out]; exact p0
            have pp1 : wd.cell? ⟨g2, i * 2 + 1, none⟩ = some (.int .u64 (y1 : Int)) := by rw [hwd.out]; exact p1
            have qq0 : wd.cell? ⟨g2, j * 2, none⟩ = some (.int .u64 (u : Int)) := by rw [hwd.out]; exact q0
            have qq1 : wd.cell? ⟨g2, j * 2 + 1, none⟩ = some (.int .u64 (v : Int)) := by rw [hwd.out]; exact q1
            have hbd : Below T w wd := by rw [hwd.out]; exact (below_drewN hbw _).drew
            obtain ⟨Lq, hbq⟩ : ∃ Lq : List Value, Blk wd g2 79 Lq.toArray := by
              unfold Pcs at hrow'
              rcases own_open hrow' with ⟨h0, _, _⟩ | ⟨g', c', L', hv, _, hb', _⟩
              · cases h0
              · injection hv with h1 _ _
                injection h1 with h1
                injection h1 with h1 _ _
                subst h1
                exact ⟨L', hb'⟩
            have fr0 := hbq.frozen (i * 2)
            have fr1 := hbq.frozen (i * 2 + 1)
            have HROW := Lib.hid hrow'
            have HBQ := Lib.hid hbq
            have HBD := Lib.hid hbd
            clear hrow' hbq hbd hwd hrow p0 p1 q0 q1 hbw
            (refine o_pure (v := ?_) (by rfl) (fun w' => ?_) ?_; rotate_left; (focus (go_simp; (try with_reducible rfl); (try (rw [if_pos (by omega)]; (try with_reducible rfl))))); (try simp only [Act.put, List.setIfInBounds_toArray, List.set_cons_zero, List.set_cons_succ]))
            (refine o_pure (v := ?_) (by rfl) (fun w' => ?_) ?_; rotate_left; (focus (go_simp; (try with_reducible rfl); (try (rw [if_pos (by omega)]; (try with_reducible rfl))))); (try simp only [Act.put, List.setIfInBounds_toArray, List.set_cons_zero, List.set_cons_succ]))
            (refine o_pure (v := ?_) (by rfl) (fun w' => ?_) ?_; rotate_left; (focus (go_simp; (try with_reducible rfl); (try (rw [if_pos (by omega)]; (try with_reducible rfl))))); (try simp only [Act.put, List.setIfInBounds_toArray, List.set_cons_zero, List.set_cons_succ]))
            (refine o_pure (v := ?_) (by rfl) (fun w' => ?_) ?_; rotate_left; (focus (go_simp; (try with_reducible rfl); (try (rw [if_pos (by omega)]; (try with_reducible rfl))))); (try simp only [Act.put, List.setIfInBounds_toArray, List.set_cons_zero, List.set_cons_succ]))
            (refine o_pure (v := ?_) (by rfl) (fun w' => ?_) ?_; rotate_left; (focus (go_simp; (try with_reducible rfl); (try (rw [if_pos (by omega)]; (try with_reducible rfl))))); (try simp only [Act.put, List.setIfInBounds_toArray, List.set_cons_zero, List.set_cons_succ]))
            (refine o_pure (v := ?_) (by rfl) (fun w' => ?_) ?_; rotate_left; (focus (go_simp; (try with_reducible rfl); (try (rw [if_pos (by omega)]; (try with_reducible rfl))))); (try simp only [Act.put, List.setIfInBounds_toArray, List.set_cons_zero, List.set_cons_succ]))
            (refine o_pure (v := ?_) (by rfl) (fun w' => ?_) ?_; rotate_left; (focus (go_simp; (try with_reducible rfl); (try (rw [if_pos (by omega)]; (try with_reducible rfl))))); (try simp only [Act.put, List.setIfInBounds_toArray, List.set_cons_zero, List.set_cons_succ]))
            (refine o_pure (v := ?_) (by rfl) (fun w' => ?_) ?_; rotate_left; (focus (go_simp; (try with_reducible rfl); (try (rw [if_pos (by omega)]; (try with_reducible rfl))))); (try simp only [Act.put, List.setIfInBounds_toArray, List.set_cons_zero, List.set_cons_succ]))
            (refine o_pure (v := ?_) (by rfl) (fun w' => ?_) ?_; rotate_left; (focus (go_simp; (try with_reducible rfl); (try (rw [if_pos (by omega)]; (try with_reducible rfl))))); (try simp only [Act.put, List.setIfInBounds_toArray, List.set_cons_zero, List.set_cons_succ]))
            (refine o_loads _ [.int .u64 (u : Int), .int .u64 (v : Int)] (by rfl) rfl rfl (cells2 qq0 qq1) (Nat.succ_pos _) (by kernel_rfl) (by kernel_rfl) ?_; simp only [Act.put, List.setIfInBounds_toArray, List.set_cons_zero, List.set_cons_succ])
            (refine o_pure (v := ?_) (by rfl) (fun w' => ?_) ?_; rotate_left; (focus (go_simp; (try with_reducible rfl); (try (rw [if_pos (by omega)]; (try with_reducible rfl))))); (try simp only [Act.put, List.setIfInBounds_toArray, List.set_cons_zero, List.set_cons_succ]))
            (refine o_pure (v := ?_) (by rfl) (fun w' => ?_) ?_; rotate_left; (focus (go_simp; (try with_reducible rfl); (try (rw [if_pos (by omega)]; (try with_reducible rfl))))); (try simp only [Act.put, List.setIfInBounds_toArray, List.set_cons_zero, List.set_cons_succ]))
            (refine o_pure (v := ?_) (by rfl) (fun w' => ?_) ?_; rotate_left; (focus (go_simp; (try with_reducible rfl); (try (rw [if_pos (by omega)]; (try with_reducible rfl))))); (try simp only [Act.put, List.setIfInBounds_toArray, List.set_cons_zero, List.set_cons_succ]))
            (refine o_loads _ [.int .u64 (x1 : Int), .int .u64 (y1 : Int)] (by rfl) rfl rfl (cells2 pp0 pp1) (Nat.succ_pos _) (by kernel_rfl) (by kernel_rfl) ?_; simp only [Act.put, List.setIfInBounds_toArray, List.set_cons_zero, List.set_cons_succ])
            (refine o_pure (v := ?_) (by rfl) (fun w' => ?_) ?_; rotate_left; (focus (go_simp; (try with_reducible rfl); (try (rw [if_pos (by omega)]; (try with_reducible rfl))))); (try simp only [Act.put, List.setIfInBounds_toArray, List.set_cons_zero, List.set_cons_succ]))
            refine o_sole (fun K hK => ?_)
            go_wp2_with fail
            refine hK _ _ (fun h => by cases h) ?_; clear hK K
            have hlI := hlenI
            have hrow2 := HROW.out.set (x := u) (y := v) hlI hin
            have hbq2 := (HBQ.out.set (i * 2) (.int .u64 (u : Int))).set (i * 2 + 1) (.int .u64 (v : Int))
            have hbd2 := (HBD.out.setCell (p := ⟨g2, i * 2, none⟩) (show T ≤ g2 by omega) (.int .u64 (u : Int))).setCell (p := ⟨g2, i * 2 + 1, none⟩) (show T ≤ g2 by omega) (.int .u64 (v : Int))
            have HROW2 := Lib.hid hrow2
            have HBQ2 := Lib.hid hbq2
            have HBD2 := Lib.hid hbd2
            clear hrow2 hbq2 hbd2 HROW HBQ HBD fr0 fr1 pp0 pp1 qq0 qq1
            generalize (wd.setCell ⟨g2, i * 2, none⟩ (.int .u64 (u : Int))).setCell ⟨g2, i * 2 + 1, none⟩ (.int .u64 (v : Int)) = wd2 at *
            have fr0 := HBQ2.out.frozen (j * 2)
            have fr1 := HBQ2.out.frozen (j * 2 + 1)
            have hrd2 := Rd.of_own (show wd2.ownsRow (T + 1) 79 2 (.slice (some ⟨g2, 0, none⟩) n2 c2) n2 (cels ((insAt o i (x1, y1)).set i (u, v))) from by have := HROW2.out; unfold Pcs at this; rwa [List.length_set, hlI] at this)
            obtain ⟨b3, off3, x3, y3, e3, _, r0, r1, _⟩ := hrd2.pc hjn
            injection e3 with e3
            injection e3 with e3 eo3
            subst e3 eo3
            simp only [Nat.zero_add] at r0 r1
            clear hrd2
            (refine o_pure (v := ?_) (by rfl) (fun w' => ?_) ?_; rotate_left; (focus (go_simp; (try with_reducible rfl); (try (rw [if_pos (by omega)]; (try with_reducible rfl))))); (try simp only [Act.put, List.setIfInBounds_toArray, List.set_cons_zero, List.set_cons_succ]))
            refine o_sole (fun K hK => ?_)
            go_wp2_with fail
            refine hK _ _ (fun h => by cases h) ?_; clear hK K
            have hrow3 := HROW2.out.set (x := x1) (y := y1) (by rw [List.length_set]; exact hlI) hjn
            have hbd3 := (HBD2.out.setCell (p := ⟨g2, j * 2, none⟩) (show T ≤ g2 by omega) (.int .u64 (x1 : Int))).setCell (p := ⟨g2, j * 2 + 1, none⟩) (show T ≤ g2 by omega) (.int .u64 (y1 : Int))
            rw [HJI.out] at HOJ
            have hsw := insAt_swap (x := (x1, y1)) HOJ.out
            rw [show i - 1 + 1 = i by omega, ← HJI.out] at hsw
            rw [hsw] at hrow3
            have HROW3 := Lib.hid hrow3
            have HBD3 := Lib.hid hbd3
            clear hrow3 hbd3 HROW2 HBQ2 HBD2 fr0 fr1 hsw r0 r1
            generalize (wd2.setCell ⟨g2, j * 2, none⟩ (.int .u64 (x1 : Int))).setCell ⟨g2, j * 2 + 1, none⟩ (.int .u64 (y1 : Int)) = wd3 at *
            refine o_nil (hQ.out _ _ ?_); clear hQ QQ
            go_wp2_with fail
            go_roundw
            case rel => exact ⟨j, haj, by have := HJI.out; omega, by go_num, HROW3, HBD3.out⟩
            case measure => simp [intOf]; omega
          · have hxu := HLO.out j (by omega) _ hoj
            dsimp only at hxu
            have hxu' : ¬ (x1 : Int) < (u : Int) := by omega
            have hxud : decide (x1 < u) = false := decide_eq_false (by omega)
            obtain rfl : a = i := by have := HJI.out; omega
            have HROW := Lib.hid hrow.out
            clear hoj hp hq hrd hxu hrow
            go_wp2_with fail
            go_quiet (fail)
            go_wp2_with fail
            go_ret
            refine ⟨_, rfl, ?_, ?_⟩
            · have h1 := HROW.out
              rw [HTOP.out] at h1
              rw [HTT.out] at h1
              exact own_mono h1 (Nat.le_succ _)
            · rw [← HTT.out]
              exact below_drewN hbw _
        · have hi00 : i = 0 := by omega
          subst hi00
          obtain rfl : a = 0 := by omega
          go_wp2_with fail
          go_quiet (fail)
          go_wp2_with fail
          go_ret
          refine ⟨_, rfl, ?_, ?_⟩
          · have h1 := hrow.out
            rw [HTOP.out] at h1
            rw [HTT.out] at h1
            exact own_mono h1 (Nat.le_succ _)
          · rw [← HTT.out]
            exact below_drewN hbw _
end Go.Proofs.Ytnngjbieoakanaa
