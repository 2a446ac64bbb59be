/- Layer 8: the only option of a kind, ours and the document's. -/
import Derived.Test.YtbiimgfocgbdaaaG10MacOpens
import Derived.Test.YtbiimgfocgbdaaaG9MacOpens
import Derived.Test.YtbiimgfocgbdaaaG15MacOpens
import Derived.Test.YtbiimgfocgbdaaaG13MacOpens
import Derived.Test.YtbiimgfocgbdaaaG27MacOpens

namespace Go.Proofs.Ytbiimgfocgbdaaa
open Go.RowKit
set_option linter.unusedVariables false
set_option linter.unusedSimpArgs false
def oneS (l : List Opn) (k : Nat) : Nat × List Nat × Bool := match l.filter (fun p => p.1 == k) with
  | [p] => (p.1, p.2, true)
  | _ => (0, [], false)
theorem len_one {α : Type} {l : List α} (h : l.length = 1) : ∃ p, l = [p] := by
  match l, h with
  | [p], _ => exact ⟨p, rfl⟩
theorem oneS_one {l : List Opn} {k : Nat} {p : Opn} (h : l.filter (fun p => p.1 == k) = [p]) : oneS l k = (p.1, p.2, true) := by unfold oneS; rw [h]
theorem oneS_not {l : List Opn} {k : Nat} (h : (l.filter (fun p => p.1 == k)).length ≠ 1) : oneS l k = (0, [], false) := by
  unfold oneS
  generalize l.filter (fun p => p.1 == k) = f at h
  match f, h with
  | [], _ => rfl
  | [p], h => exact absurd rfl h
  | p :: q :: r, _ => rfl
theorem filt_yes {l : List Opn} {i k kq : Nat} {b : List Nat} (h : l[i]? = some (kq, b)) (e : kq = k) : (l.take (i + 1)).filter (fun p => p.1 == k) = (l.take i).filter (fun p => p.1 == k) ++ [(kq, b)] := by
  rw [nth_take (Lib.hid h), List.filter_append]
  simp [e]
theorem filt_no {l : List Opn} {i k kq : Nat} {b : List Nat} (h : l[i]? = some (kq, b)) (e : kq ≠ k) : (l.take (i + 1)).filter (fun p => p.1 == k) = (l.take i).filter (fun p => p.1 == k) := by
  rw [nth_take (Lib.hid h), List.filter_append]
  simp [e]
theorem filt_le {l : List Opn} {i k : Nat} : ((l.take i).filter (fun p => p.1 == k)).length ≤ i := Nat.le_trans (List.length_filter_le _ _) (by rw [List.length_take]; omega)
theorem filt_more {l : List Opn} {i k : Nat} (h : 2 ≤ ((l.take i).filter (fun p => p.1 == k)).length) : (l.filter (fun p => p.1 == k)).length ≠ 1 := by
  have e : l.filter (fun p => p.1 == k) = (l.take i).filter (fun p => p.1 == k) ++ (l.drop i).filter (fun p => p.1 == k) := by rw [← List.filter_append, List.take_append_drop]
  rw [e, List.length_append]
  omega
/-- What One answers. -/
def OnePost (l : List Opn) (k : Nat) (w' : World) (e : Ending) : Prop := ∃ (kd : Nat) (A : Option Addr) (n c : Nat) (b : List Nat) (is : Bool), e = .returned (.tuple #[.agg #[.int .u8 (kd : Int), .slice A n c], .bool is]) ∧ n ≤ c ∧ Rd w' w'.heap.size 1 A n (ns .u8 b) ∧ oneS l k = (kd, b, is)
theorem Rd.past {w w' : World} {T : Nat} {A : Option Addr} {n sz : Nat} {xs : List Value} {B : Nat} (h : Rd w B sz A n xs) (hs : Solo T w w') (hB : B ≤ T) : Rd w' B sz A n xs := h.keep (Nat.le_refl _) fun b o hb => World.cell?_of_block (a := ⟨b, o, none⟩) (hs.2.2 b (by omega))
set_option maxRecDepth 20000 in
set_option maxHeartbeats 4000000 in
theorem one_any (v : Value) (g : Sg) (kd : Nat) (w : World) (h : SegV w v g) (hs : g.small) :
    Calls Try.prog 62 #[v, .int .u8 (kd : Int)] w fun e w' => OnePost g.opts kd w' e ∧ Below w.heap.size w w' := by
  obtain ⟨A, n, c, D, m, d, l, rfl, hO, ho, hD, hmd, hdm⟩ := h
  have hb0 : Below w.heap.size w (((w.alloc (.cells (segCs g A n c D m d) 30)).alloc (.cells #[.int .u8 0, .slice none 0 0] 45)).alloc (.cells #[.int .u8 0, .slice none 0 0] 45)) := (((Below.refl _ _).alloc (Nat.le_refl _) _).alloc (by simp) _).alloc (by simp; omega) _
  have hk1 := ((Blk.new w 30 (segCs g A n c D m d)).alloc (.cells #[.int .u8 0, .slice none 0 0] 45)).alloc (.cells #[.int .u8 0, .slice none 0 0] 45)
  have hk2 := (Blk.new (w.alloc (.cells (segCs g A n c D m d) 30)) 45 #[.int .u8 0, .slice none 0 0]).alloc (.cells #[.int .u8 0, .slice none 0 0] 45)
  have hk3 := Blk.new ((w.alloc (.cells (segCs g A n c D m d) 30)).alloc (.cells #[.int .u8 0, .slice none 0 0] 45)) 45 #[.int .u8 0, .slice none 0 0]
  rw [show (w.alloc (.cells (segCs g A n c D m d) 30)).heap.size = w.heap.size + 1 by simp] at hk2
  rw [show ((w.alloc (.cells (segCs g A n c D m d) 30)).alloc (.cells #[.int .u8 0, .slice none 0 0] 45)).heap.size = w.heap.size + 2 by simp] at hk3
  have HBN := Lib.hid (show ∀ p ∈ osay l, p.2.length ≤ 10000 from by rw [← ho]; exact hs.bodies)
  have hn : n ≤ 10000 := by have h1 := hs.opts; rw [ho] at h1; unfold osay at h1; rw [List.length_map, hO.len] at h1; exact h1
  have HL := Lib.hid hO.len
  rw [ho]
  have HO := Lib.hid hO
  have HB0 := Lib.hid hb0
  have K2 := Lib.hid hk2
  have K3 := Lib.hid hk3
  obtain ⟨_, _, _, _, _, s5, _⟩ := seg_cells hk1
  clear hO ho hD hmd hdm hs hb0 hk1 hk2 hk3
  unfold segCs at *
  go_enter Try.func62, Try.ntmps62
  go_wp2_with fail
  generalize ((w.alloc (.cells #[.int .u16 (g.src : Int), .int .u16 (g.dst : Int), .int .u32 (g.seq : Int), .int .u32 (g.ack : Int), .int .u8 (g.flags : Int), .slice A n c, .slice D m d] 30)).alloc (.cells #[.int .u8 0, .slice none 0 0] 45)).alloc (.cells #[.int .u8 0, .slice none 0 0] 45) = W at *
  obtain ⟨T, hT⟩ : ∃ T, T = w.heap.size := ⟨_, rfl⟩
  rw [← hT] at K2 K3 s5 ⊢
  have HT := Lib.hid hT
  clear hT
  go_loopw [7, 14] (fun mv iv wr => ∃ (k s kq : Nat) (q : Body), k ≤ n ∧ iv = .int .i64 k ∧ mv = .int .i64 (s : Int) ∧ s ≤ k ∧ Hid ((((osay l).take k).filter (fun p => p.1 == kd)).length = s) ∧ Hid (Blk wr (T + 1) 45 #[.int .u8 0, .slice none 0 0]) ∧ Hid (Blk wr (T + 2) 45 #[.int .u8 (kq : Int), .slice q.A q.n q.c]) ∧ Below w.heap.size w wr ∧ Hid (∀ p, ((osay l).take k).filter (fun p => p.1 == kd) = [p] → p = (kq, q.l) ∧ Rd w w.heap.size 1 q.A q.n (ns .u8 q.l) ∧ q.l.length ≤ 10000)) (fun _ iv _ => n - (intOf iv).toNat)
  case atStart => exact ⟨0, 0, 0, ⟨none, 0, 0, []⟩, Nat.zero_le _, rfl, rfl, Nat.le_refl _, Lib.hid (by simp), K2, K3, HB0.out, Lib.hid (by simp)⟩
  case round =>
    clear K2 K3 s5 HB0
    obtain ⟨k, s, kq, q, hk, rfl, rfl, hsk, hfl, K2, K3, hbw, hlast⟩ := hrel
    by_cases hlt : k < n
    · have hlt' : (k : Int) < (n : Int) := by omega
      obtain ⟨b, off, kr, r, rfl, hbb, p0, p1, hp, hr, hrl⟩ := HO.out.at_ hlt
      have P0 := (hbw.cell (p := ⟨b, off + k * 2, none⟩) hbb).trans p0
      have P1 := (hbw.cell (p := ⟨b, off + k * 2 + 1, none⟩) hbb).trans p1
      obtain ⟨rA, rn, rc, rl⟩ := r
      dsimp only at *
      have HP := Lib.hid (osay_at hp)
      have hr1 : rl.length ≤ 10000 := HBN.out _ (List.mem_of_getElem? HP.out)
      clear p0 p1 hp
      by_cases he : kr = kd
      · subst he
        have hfy := filt_yes HP.out (rfl : kr = kr)
        have HFL : Hid ((((osay l).take (k + 1)).filter (fun p => p.1 == kr)).length = s + 1) := Lib.hid (by rw [hfy, List.length_append, hfl.out]; rfl)
        have HLA : Hid (∀ p, ((osay l).take (k + 1)).filter (fun p => p.1 == kr) = [p] → p = (kr, rl) ∧ Rd w w.heap.size 1 rA rn (ns .u8 rl) ∧ rl.length ≤ 10000) := Lib.hid (fun p hp => by
          rw [hfy] at hp
          have h0 : ((osay l).take k).filter (fun p => p.1 == kr) = [] := by
            have := congrArg List.length hp
            simp at this
            simpa using this
          rw [h0] at hp
          injection hp with hp _
          exact ⟨hp.symm, hr.out, hr1⟩)
        obtain ⟨s2, hs2⟩ : ∃ s2, s2 = s + 1 := ⟨_, rfl⟩
        have es : (s : Int) + 1 = (s2 : Int) := by omega
        have ws : IntKind.i64.wrap ((s : Int) + 1) = (s2 : Int) := by rw [es, IntKind.wrap_i64]; omega
        rw [← hs2] at HFL
        have hs2k : s2 ≤ k + 1 := by omega
        have ha : Below wr.heap.size wr (wr.alloc (.cells #[.int .u8 (kr : Int), .slice rA rn rc] 45)) := (Below.refl _ _).alloc (Nat.le_refl _) _
        have hbA := hbw.trans (ha.mono hbw.size)
        have K2a := K2.out.below ha K2.out.lt
        have K3a := K3.out.below ha K3.out.lt
        obtain ⟨z0, z1⟩ := ptc2 K3a
        have f0 := K3a.frozen 0
        have f1 := K3a.frozen 1
        have hkz := pt2 (.int .u8 (kr : Int)) (.slice rA rn rc) K3a
        have hso := pts2 (w := wr.alloc (.cells #[.int .u8 (kr : Int), .slice rA rn rc] 45)) (T := T + 2) (.int .u8 (kr : Int)) (.slice rA rn rc)
        unfold ptw2 at hkz hso
        have K2z := Lib.hid (hso.blk K2a (by omega))
        have K3z := Lib.hid hkz
        have HBz := Lib.hid (hbA.trans (hso.1.mono (by have := HT.out; omega)))
        clear hkz hso K2a K3a hbA ha hfy hr hfl hlast hs2 es K2 K3
        clear hrl
        go_wp2_with fail
        go_roundw
        case rel => exact ⟨k + 1, s2, kr, ⟨rA, rn, rc, rl⟩, by omega, by go_num, rfl, hs2k, HFL, K2z, K3z, HBz.out, HLA⟩
        case measure => simp [intOf]; omega
      · have hfn := filt_no HP.out he
        have HFL : Hid ((((osay l).take (k + 1)).filter (fun p => p.1 == kd)).length = s) := Lib.hid (by rw [hfn]; exact hfl.out)
        have HLA : Hid (∀ p, ((osay l).take (k + 1)).filter (fun p => p.1 == kd) = [p] → p = (kq, q.l) ∧ Rd w w.heap.size 1 q.A q.n (ns .u8 q.l) ∧ q.l.length ≤ 10000) := Lib.hid (by rw [hfn]; exact hlast.out)
        have hed : ((kr : Int) == (kd : Int)) = false := beq_eq_false_iff_ne.2 (by omega)
        have ha : Below wr.heap.size wr (wr.alloc (.cells #[.int .u8 (kr : Int), .slice rA rn rc] 45)) := (Below.refl _ _).alloc (Nat.le_refl _) _
        have HBA := Lib.hid (hbw.trans (ha.mono hbw.size))
        have K2a := Lib.hid (K2.out.below ha K2.out.lt)
        have K3a := Lib.hid (K3.out.below ha K3.out.lt)
        clear ha hfn hr hfl hlast K2 K3 hrl
        go_wp2_with fail
        go_roundw
        case rel => exact ⟨k + 1, s, kq, q, by omega, by go_num, rfl, by omega, HFL, K2a, K3a, HBA.out, HLA⟩
        case measure => simp [intOf]; omega
    · have hge : ¬ (k : Int) < (n : Int) := by omega
      have hall : (osay l).take k = osay l := List.take_of_length_le (by unfold osay; rw [List.length_map, HL.out]; omega)
      have h1 := hfl.out
      have h2 := hlast.out
      rw [hall] at h1 h2
      have H1 := Lib.hid h1
      have H2 := Lib.hid h2
      clear hall h1 h2 hfl hlast
      by_cases hs1 : s = 1
      · subst hs1
        obtain ⟨qA, qn, qc, ql⟩ := q
        dsimp only at *
        have hex := len_one H1.out
        obtain ⟨p, hp⟩ := hex
        obtain ⟨e, hrd, hql⟩ := H2.out p hp
        have hkk : p.1 = kd := by
          have : p ∈ (osay l).filter (fun p => p.1 == kd) := by rw [hp]; simp
          simpa using (List.mem_filter.1 this).2
        have HON := Lib.hid (show oneS (osay l) kd = (kd, ql, true) by rw [oneS_one hp, hkk, e])
        have HRD := Lib.hid hrd
        clear hp e hkk H1 H2
        obtain ⟨z0, z1⟩ := ptc2 K3.out
        have hRd2 := hrd.into hbw
        have hqn : qn ≤ 10000 := by have := hrd.natLen; omega
        clear hrd hql
        go_wp2_with fail
        refine (clone_any qA qn qc ql wr hRd2 (by omega)).mono ?_
        rintro e w3 ⟨v3, rfl, hN, hb3⟩
        have K4 := Lib.hid (K2.out.below hb3 K2.out.lt)
        have HB3 := Lib.hid (hbw.trans (hb3.mono hbw.size))
        have hTw : T + 3 ≤ wr.heap.size := K3.out.lt
        have HN := Lib.hid (hN.mono hTw)
        obtain ⟨A3, n3, c3, rfl, _, _, _⟩ := hN.out
        clear hN hb3 z0 z1 hRd2 K2 K3
        obtain ⟨t0, t1⟩ := ptc2 K4.out
        have f0 := K4.out.frozen 0
        have f1 := K4.out.frozen 1
        go_wp2_with fail
        have hkz := pt2 (.int .u8 (kd : Int)) (.slice A3 n3 c3) K4.out
        have hbz := ptb2 (.int .u8 (kd : Int)) (.slice A3 n3 c3) HB3.out (show w.heap.size ≤ T + 1 by rw [← HT.out]; omega)
        have hsz := pts2 (w := w3) (T := T + 1) (.int .u8 (kd : Int)) (.slice A3 n3 c3)
        have hNz := nats_past HN.out (show T + 1 < T + 3 by omega) hsz
        unfold ptw2 at hkz hbz hNz
        generalize (w3.setCell ⟨T + 1, 0, none⟩ (.int .u8 (kd : Int))).setCell ⟨T + 1, 1, none⟩ (.slice A3 n3 c3) = wz at *
        clear t0 t1 f0 f1
        obtain ⟨z0, z1⟩ := ptc2 hkz
        obtain ⟨A4, n4, c4, e4, hnc4, _, hr4⟩ := hNz.out
        injection e4 with e4 e5 e6
        subst e4 e5 e6
        exact bodyPost_ret (v := .tuple #[.agg #[.int .u8 (kd : Int), .slice A3 n3 c3], .bool true]) (by simp [results, Try.results62, go_sem, z0, z1]) rfl ⟨⟨kd, A3, n3, c3, ql, true, rfl, hnc4, hr4.out, HON.out⟩, hbz⟩
      · have hsd : ((s : Int) != 1) = true := by simp; omega
        have hsd2 : ((s : Int) == 1) = false := by simp; omega
        have HON := Lib.hid (oneS_not (l := osay l) (k := kd) (by rw [H1.out]; exact hs1))
        obtain ⟨t0, t1⟩ := ptc2 K2.out
        have f0 := K2.out.frozen 0
        have f1 := K2.out.frozen 1
        clear H1 H2 hs1 K3
        go_wp2_with fail
        have hkz := pt2 (.int .u8 0) (.slice none 0 0) K2.out
        have hbz := ptb2 (.int .u8 0) (.slice none 0 0) hbw (show w.heap.size ≤ T + 1 by rw [← HT.out]; omega)
        unfold ptw2 at hkz hbz
        generalize (wr.setCell ⟨T + 1, 0, none⟩ (.int .u8 0)).setCell ⟨T + 1, 1, none⟩ (.slice none 0 0) = wz at *
        clear t0 t1 f0 f1
        obtain ⟨z0, z1⟩ := ptc2 hkz
        exact bodyPost_ret (v := .tuple #[.agg #[.int .u8 0, .slice none 0 0], .bool false]) (by simp [results, Try.results62, go_sem, z0, z1]) rfl ⟨⟨0, none, 0, 0, [], false, rfl, Nat.le_refl _, Rd.nil _ _ _ _, HON.out⟩, hbz⟩
set_option maxRecDepth 20000 in
set_option maxHeartbeats 4000000 in
theorem rone_any (v : Value) (g : Sg) (kd : Nat) (w : World) (h : SegV w v g) (hs : g.small) :
    Calls Try.prog 64 #[v, .int .u8 (kd : Int)] w fun e w' => OnePost g.opts kd w' e ∧ Below w.heap.size w w' := by
  obtain ⟨A, n, c, D, m, d, l, rfl, hO, ho, hD, hmd, hdm⟩ := h
  have hb0 : Below w.heap.size w ((w.alloc (.cells (segCs g A n c D m d) 30)).alloc (.cells #[.int .u8 0, .slice none 0 0] 45)) := ((Below.refl _ _).alloc (Nat.le_refl _) _).alloc (by simp) _
  have hk1 := (Blk.new w 30 (segCs g A n c D m d)).alloc (.cells #[.int .u8 0, .slice none 0 0] 45)
  have hk2 := Blk.new (w.alloc (.cells (segCs g A n c D m d) 30)) 45 #[.int .u8 0, .slice none 0 0]
  rw [show (w.alloc (.cells (segCs g A n c D m d) 30)).heap.size = w.heap.size + 1 by simp] at hk2
  have hn : n ≤ 10000 := by have h1 := hs.opts; rw [ho] at h1; unfold osay at h1; rw [List.length_map, hO.len] at h1; exact h1
  have HL := Lib.hid hO.len
  rw [ho]
  have HO := Lib.hid hO
  have HB0 := Lib.hid hb0
  have K2 := Lib.hid hk2
  obtain ⟨_, _, _, _, _, s5, _⟩ := seg_cells hk1
  clear hO ho hD hmd hdm hs hb0 hk1 hk2
  unfold segCs at *
  go_enter Try.func64, Try.ntmps64
  go_wp2_with fail
  generalize (w.alloc (.cells #[.int .u16 (g.src : Int), .int .u16 (g.dst : Int), .int .u32 (g.seq : Int), .int .u32 (g.ack : Int), .int .u8 (g.flags : Int), .slice A n c, .slice D m d] 30)).alloc (.cells #[.int .u8 0, .slice none 0 0] 45) = W at *
  obtain ⟨T, hT⟩ : ∃ T, T = w.heap.size := ⟨_, rfl⟩
  rw [← hT] at K2 s5 ⊢
  have HT := Lib.hid hT
  clear hT
  go_loopw [6, 7] (fun av iv wr => ∃ (k : Nat) (at_ : Int), k ≤ n ∧ iv = .int .i64 k ∧ av = .int .i64 at_ ∧ at_ < 10001 ∧ Hid (wr = W) ∧ Hid ((at_ = -1 ∧ ((osay l).take k).filter (fun p => p.1 == kd) = []) ∨ ∃ (j : Nat) (p : Opn), at_ = (j : Int) ∧ j < k ∧ ((osay l).take k).filter (fun p => p.1 == kd) = [p] ∧ (osay l)[j]? = some p)) (fun _ iv _ => n - (intOf iv).toNat)
  case atStart => exact ⟨0, -1, Nat.zero_le _, rfl, rfl, by omega, Lib.hid rfl, Lib.hid (.inl ⟨rfl, by simp⟩)⟩
  case round =>
    obtain ⟨k, at_, hk, rfl, rfl, hat, hw, hrel⟩ := hrel
    have hw := hw.out
    subst hw
    obtain ⟨t0, t1⟩ := ptc2 K2.out
    have f0 := K2.out.frozen 0
    have f1 := K2.out.frozen 1
    by_cases hlt : k < n
    · have hlt' : (k : Int) < (n : Int) := by omega
      obtain ⟨b, off, kr, r, rfl, hbb, p0, p1, hp, hr, hrl⟩ := HO.out.at_ hlt
      have P0 := (HB0.out.cell (p := ⟨b, off + k * 2, none⟩) hbb).trans p0
      have P1 := (HB0.out.cell (p := ⟨b, off + k * 2 + 1, none⟩) hbb).trans p1
      obtain ⟨rA, rn, rc, rl⟩ := r
      dsimp only at *
      have HP := Lib.hid (osay_at hp)
      clear p0 p1 hp hr hrl
      by_cases he : kr = kd
      · subst he
        have hfy := filt_yes HP.out (rfl : kr = kr)
        rcases hrel.out with ⟨rfl, h0⟩ | ⟨j, p, rfl, hj, h0, hpj⟩
        · have HR : Hid (((k : Int) = -1 ∧ ((osay l).take (k + 1)).filter (fun p => p.1 == kr) = []) ∨ ∃ (j : Nat) (p : Opn), (k : Int) = (j : Int) ∧ j < k + 1 ∧ ((osay l).take (k + 1)).filter (fun p => p.1 == kr) = [p] ∧ (osay l)[j]? = some p) := Lib.hid (.inr ⟨k, (kr, rl), rfl, by omega, by rw [hfy, h0]; rfl, HP.out⟩)
          clear hrel hfy h0
          go_wp2_with fail
          go_roundw
          case rel => exact ⟨k + 1, (k : Int), by omega, by go_num, rfl, by omega, Lib.hid (by first | trivial | rfl), HR⟩
          case measure => simp [intOf]; omega
        · have hj0 : (0 : Int) ≤ (j : Int) := by omega
          have HON := Lib.hid (oneS_not (l := osay l) (k := kr) (filt_more (i := k + 1) (by rw [hfy, h0]; simp)))
          clear hrel hfy h0 hpj
          go_wp2_with fail
          have hkz := pt2 (.int .u8 0) (.slice none 0 0) K2.out
          have hbz := ptb2 (.int .u8 0) (.slice none 0 0) HB0.out (show w.heap.size ≤ T + 1 by rw [← HT.out]; omega)
          unfold ptw2 at hkz hbz
          generalize (wr.setCell ⟨T + 1, 0, none⟩ (.int .u8 0)).setCell ⟨T + 1, 1, none⟩ (.slice none 0 0) = wz at *
          clear t0 t1 f0 f1
          obtain ⟨z0, z1⟩ := ptc2 hkz
          exact bodyPost_ret (v := .tuple #[.agg #[.int .u8 0, .slice none 0 0], .bool false]) (by simp [results, Try.results64, go_sem, z0, z1]) rfl ⟨⟨0, none, 0, 0, [], false, rfl, Nat.le_refl _, Rd.nil _ _ _ _, HON.out⟩, hbz⟩
      · have hed : ((kr : Int) != (kd : Int)) = true := by simp; omega
        have hfn := filt_no HP.out he
        have HR : Hid ((at_ = -1 ∧ ((osay l).take (k + 1)).filter (fun p => p.1 == kd) = []) ∨ ∃ (j : Nat) (p : Opn), at_ = (j : Int) ∧ j < k + 1 ∧ ((osay l).take (k + 1)).filter (fun p => p.1 == kd) = [p] ∧ (osay l)[j]? = some p) := Lib.hid (by
          rw [hfn]
          rcases hrel.out with h | ⟨j, p, h1, h2, h3⟩
          · exact .inl h
          · exact .inr ⟨j, p, h1, by omega, h3⟩)
        clear hrel hfn he
        go_wp2_with fail
        go_roundw
        case rel => exact ⟨k + 1, at_, by omega, by go_num, rfl, hat, Lib.hid (by first | trivial | rfl), HR⟩
        case measure => simp [intOf]; omega
    · have hge : ¬ (k : Int) < (n : Int) := by omega
      have hall : (osay l).take k = osay l := List.take_of_length_le (by unfold osay; rw [List.length_map, HL.out]; omega)
      rcases hrel.out with ⟨rfl, h0⟩ | ⟨j, p, rfl, hj, h0, hpj⟩
      · rw [hall] at h0
        have HON := Lib.hid (oneS_not (l := osay l) (k := kd) (by rw [h0]; simp))
        clear h0 hall hrel
        go_wp2_with fail
        have hkz := pt2 (.int .u8 0) (.slice none 0 0) K2.out
        have hbz := ptb2 (.int .u8 0) (.slice none 0 0) HB0.out (show w.heap.size ≤ T + 1 by rw [← HT.out]; omega)
        unfold ptw2 at hkz hbz
        generalize (wr.setCell ⟨T + 1, 0, none⟩ (.int .u8 0)).setCell ⟨T + 1, 1, none⟩ (.slice none 0 0) = wz at *
        clear t0 t1 f0 f1
        obtain ⟨z0, z1⟩ := ptc2 hkz
        exact bodyPost_ret (v := .tuple #[.agg #[.int .u8 0, .slice none 0 0], .bool false]) (by simp [results, Try.results64, go_sem, z0, z1]) rfl ⟨⟨0, none, 0, 0, [], false, rfl, Nat.le_refl _, Rd.nil _ _ _ _, HON.out⟩, hbz⟩
      · rw [hall] at h0
        have hjn : j < n := by omega
        obtain ⟨b, off, kr, r, rfl, hbb, p0, p1, hp, hr, hrl⟩ := HO.out.at_ hjn
        have P0 := (HB0.out.cell (p := ⟨b, off + j * 2, none⟩) hbb).trans p0
        have P1 := (HB0.out.cell (p := ⟨b, off + j * 2 + 1, none⟩) hbb).trans p1
        obtain ⟨rA, rn, rc, rl⟩ := r
        dsimp only at *
        have HCP := Lib.hid (HO.out.bod _ (List.mem_of_getElem? hp.out)).2.1
        dsimp only at HCP
        have e : p = (kr, rl) := by have h1 := osay_at hp; rw [hpj] at h1; injection h1
        have HON := Lib.hid (show oneS (osay l) kd = (kr, rl, true) by rw [oneS_one h0, e])
        have HRr := Lib.hid (hr.out.below HB0.out)
        have hjn' : (j : Int) < (n : Int) := by omega
        have hj0 : (0 : Int) ≤ (j : Int) := by omega
        have hj1 : ¬ (j : Int) < 0 := by omega
        have hbT : b < T := by rw [HT.out]; exact hbb
        clear h0 hpj e p0 p1 hp hr hrl hrel hall
        go_wp2_with fail
        have hkz := pt2 (.int .u8 (kr : Int)) (.slice rA rn rc) K2.out
        have hbz := ptb2 (.int .u8 (kr : Int)) (.slice rA rn rc) HB0.out (show w.heap.size ≤ T + 1 by rw [← HT.out]; omega)
        have hso := pts2 (w := wr) (T := T + 1) (.int .u8 (kr : Int)) (.slice rA rn rc)
        have hrz := (HRr.out.past hso (by rw [← HT.out]; omega)).mono hbz.size
        unfold ptw2 at hkz hbz hrz
        clear hso
        generalize (wr.setCell ⟨T + 1, 0, none⟩ (.int .u8 (kr : Int))).setCell ⟨T + 1, 1, none⟩ (.slice rA rn rc) = wz at *
        clear t0 t1 f0 f1
        obtain ⟨z0, z1⟩ := ptc2 hkz
        exact bodyPost_ret (v := .tuple #[.agg #[.int .u8 (kr : Int), .slice rA rn rc], .bool true]) (by simp [results, Try.results64, go_sem, z0, z1]) rfl ⟨⟨kr, rA, rn, rc, rl, true, rfl, HCP.out, hrz, HON.out⟩, hbz⟩
end Go.Proofs.Ytbiimgfocgbdaaa
