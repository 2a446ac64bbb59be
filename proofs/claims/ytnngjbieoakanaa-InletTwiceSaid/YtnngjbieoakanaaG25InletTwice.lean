/- Package spans: Gaps. -/
import Derived.Test.YtnngjbieoakanaaG24InletTwice

namespace Go.Proofs.Ytnngjbieoakanaa
open Go.RowKit
set_option linter.unusedVariables false
/-- Pieces, in a row of the call's own. -/
def Pcs (w : World) (e : TypeId) (B : Nat) (v : Value) (l : List Sp) : Prop := w.ownsRow B e 2 v l.length (cels l)
theorem Pcs.nil (w : World) (e : TypeId) (B : Nat) : Pcs w e B (.slice none 0 0) [] := World.ownsRow_nil w B e 2
theorem Pcs.below {w w' : World} {e : TypeId} {B : Nat} {v : Value} {l : List Sp} (h : Pcs w e B v l) (hb : Below w.heap.size w w') : Pcs w' e B v l := own_below h hb fun g hg => (h.lt g hg).2
theorem Pcs.alloc {w : World} {e : TypeId} {B : Nat} {v : Value} {l : List Sp} (h : Pcs w e B v l) (o : Obj) : Pcs (w.alloc o) e B v l := World.ownsRow.alloc h o
/-- The slice itself. -/
theorem Pcs.out {w : World} {e : TypeId} {B : Nat} {v : Value} {l : List Sp} (h : Pcs w e B v l) : ∃ (A : Option Addr) (n c : Nat), v = .slice A n c ∧ n ≤ c ∧ c ≤ maxLen ∧ Hid (l.length = n) ∧ Hid (Rd w w.heap.size 2 A n (cels l)) := by
  obtain ⟨A, c, rfl, h1, h2, h3⟩ := own_form h
  exact ⟨A, _, c, rfl, h1, h2, Lib.hid rfl, Lib.hid h3⟩
section
variable {P : Program} {ops : Array Oper} {rest : List Oper} {o : Oper} {a : Act} {Q : Exit → Act → World → Prop} {t e : TypeId} {z : Value} {bytes : Nat}
theorem app1p {w0 : World} (el : El P t e z 2 bytes) (x y : Nat) (hgd : o.guard = none) (s d : Operand) (ho : o.op = .call { callee := .builtin .append, args := #[s, d], argTypes := #[t, t] })
    {base : Nat} {v : Value} {l : List Sp} (hs : a.eval s = v) (hown : Pcs w0 e base v l) {gz : Nat} (hx : a.eval d = .slice (some ⟨gz, 0, none⟩) 1 1) (hgz : gz = w0.heap.size) (hroom : (l.length + 1) * bytes ≤ room) (hbase : base ≤ w0.heap.size)
    (h : ∀ v' w', Pcs w' e base v' (l ++ [(x, y)]) → w0.grownBy w' v.ownBlock → Below base w0 w' → wpList P ops Q rest (a.put o.dst v') w') : wpList P ops Q (o :: rest) a (w0.alloc (.cells #[.int .u64 (x : Int), .int .u64 (y : Int)] e)) := by
  subst hgz
  have hr : Rd (w0.alloc (.cells #[.int .u64 (x : Int), .int .u64 (y : Int)] e)) (w0.heap.size + 1) 2 (some ⟨w0.heap.size, 0, none⟩) 1 (cels [(x, y)]) := Rd.made w0 e #[.int .u64 (x : Int), .int .u64 (y : Int)] rfl
  refine app el hgd s d ho hs (hown.alloc _) hx hr (cels_one _) hroom (by simp; omega) fun v' w' h1 h2 h3 => ?_
  refine h v' w' ?_ ?_ (((Below.refl _ _).alloc hbase _).trans h3)
  · unfold Pcs
    rw [cels_append, List.length_append]
    exact h1
  · have hA := World.grownBy_alloc w0 (.cells #[.int .u64 (x : Int), .int .u64 (y : Int)] e) v.ownBlock
    exact grownBy_trans hA h2
end
theorem gap_stop {l : List Sp} {f t : Nat} (h : ∀ p, l.head? = some p → t ≤ p.1) : gapF l f t = if f < t then [(f, t)] else [] := by
  cases l with
  | nil => rfl
  | cons p l =>
    unfold gapF
    rw [if_pos (h p rfl)]
theorem gap_step {l : List Sp} {k x y f t : Nat} (h : l[k]? = some (x, y)) (ht : ¬ t ≤ x) : gapF (l.drop k) f t = (if f < x then [(f, x)] else []) ++ gapF (l.drop (k + 1)) y t := by
  have e : l.drop k = (x, y) :: l.drop (k + 1) := by
    obtain ⟨hl, hx⟩ := List.getElem?_eq_some_iff.1 h
    rw [← List.getElem_cons_drop hl, hx]
  rw [e]
  conv => lhs; unfold gapF
  rw [if_neg ht]
  split <;> rfl
theorem Rd.cut {w : World} {B sz n c k : Nat} {A : Option Addr} {xs : List Value} (h : Rd w B sz A n xs) (hk : k ≤ n) (hc : n ≤ c) : Rd w B sz (cutA A c k sz) (n - k) (xs.drop (k * sz)) := h.drop hk hc
set_option maxRecDepth 20000 in
set_option maxHeartbeats 2000000 in
theorem gaps_any (g B most : Nat) (v : Value) (l : List Sp) (f t : Nat) (w : World) (h : SetI w g B most v l) :
    Calls Try.prog 34 #[.pointer (some ⟨g, 0, none⟩), .int .u64 (f : Int), .int .u64 (t : Int)] w fun e w' => ∃ v', e = .returned v' ∧ Pcs w' 71 w.heap.size v' (gapL l f t) ∧ Below w.heap.size w w' := by
  have hfi := find_any g B most v l f f w h
  obtain ⟨A, c, rfl, hnc, hcm, hr⟩ := own_form h.own
  have hms := h.ms
  have hl := h.len
  have HS := Lib.hid h
  have hat := spAt_le l f
  have hgl := h.lt
  have hlen := (gapL_facts f t h.rise).2.2.1
  have e0 : gapL l f t = gapF (l.drop (spAt l f)) f t := by unfold gapL; rw [spRest_drop]
  have HR := Lib.hid (hr.cut hat hnc)
  have HLN := Lib.hid (show (l.drop (spAt l f)).length = l.length - spAt l f by rw [List.length_drop])
  rw [cels_drop] at HR
  have HE := Lib.hid e0
  have HFI := Lib.hid hfi
  have c1 := h.c1
  clear h hr e0 hfi
  unfold maxLen at hcm
  have hu : Try.prog.underlying 57 = some (.slice (Try.prog.elem 57)) := by unfold Program.elem; rw [Try.underlying57]
  have hc1 := run_cut_l spnEl A l.length c (spAt l f) hat
  have hc2 : ∀ w, (Instr.sliceAt 57 (.slice A l.length c) (some (.int .i64 (spAt l f : Int))) none none).run Try.prog w = _ := fun w => (run_sliceAt_slice w _ _ _ _ _ hu).trans (hc1 w)
  clear hu
  generalize cutA A c (spAt l f) 2 = X at HR hc1 hc2
  obtain ⟨N, hN⟩ : ∃ N, N = l.length := ⟨_, rfl⟩
  obtain ⟨a, ha⟩ : ∃ a, a = spAt l f := ⟨_, rfl⟩
  obtain ⟨r, hrr⟩ : ∃ r, r = l.drop (spAt l f) := ⟨_, rfl⟩
  rw [← hrr] at HR HE HLN
  rw [← ha] at HFI hat hc1 hc2 HR HLN
  rw [← hN] at hnc hl c1 HR HLN hat hc1 hc2 hlen
  obtain ⟨n, hn⟩ : ∃ n, n = N - a := ⟨_, rfl⟩
  rw [← hn] at HR HLN hc1 hc2
  have hn64 : n ≤ 64 := by omega
  have HG := Lib.hid hlen
  clear hN ha hrr hn hlen
  go_enter Try.func34, Try.ntmps34
  go_wp2_with fail
  refine HFI.out.mono ?_
  rintro e w1 ⟨rfl, hb1⟩
  have d1 := (hb1.cell (p := ⟨g, 1, none⟩) hgl).trans c1
  clear HFI c1
  go_wp2_with fail
  clear hc1 hc2 d1
  go_loopw [1, 7, 27] (fun fv gv iv wr => ∃ (k fk : Nat) (out : List Sp), k ≤ n ∧ iv = .int .i64 k ∧ fv = .int .u64 (fk : Int) ∧ Hid (gapF r f t = out ++ gapF (r.drop k) fk t) ∧ Hid (Pcs wr 71 w.heap.size gv out) ∧ Below w.heap.size w wr ∧ out.length ≤ k) (fun _ _ iv _ => n - (intOf iv).toNat)
  case atStart => exact ⟨0, f, [], Nat.zero_le _, rfl, rfl, Lib.hid rfl, Lib.hid (Pcs.nil _ _ _), hb1, Nat.le_refl _⟩
  case round =>
    obtain ⟨k, fk, out, hk, rfl, rfl, hgap, hout0, hbw, hol⟩ := hrel
    obtain ⟨A7, n7, c7, rfl, _, _, _, _⟩ := hout0.out.out
    have hout := hout0
    clear hout0
    have hbs := hbw.size
    have hroom : (out.length + 1) * 16 ≤ room := room_ge (by omega)
    by_cases hlt : k < n
    · have hlt' : (k : Int) < (n : Int) := by omega
      obtain ⟨b, off, x, y, rfl, hbb, p0, p1, hp⟩ := (HR.out.below hbw).pc hlt
      by_cases htx : t ≤ x
      · have htx' : (t : Int) ≤ (x : Int) := by omega
        have hst := gap_stop (l := r.drop k) (f := fk) (t := t) (by intro p hp2; rw [List.head?_drop, hp.out] at hp2; injection hp2 with hp2; subst hp2; exact htx)
        have hg2 := hgap.out
        rw [hst] at hg2
        by_cases hft : fk < t
        · have hft' : (fk : Int) < (t : Int) := by omega
          rw [if_pos hft] at hg2
          have HG2 := Lib.hid hg2
          clear hst hg2 hgap
          go_wp2_with (at_builtin; refine app1p spnEl fk t rfl (.tmp 52) (.tmp 56) rfl rfl (hout.out.alloc _) rfl (by simp) hroom (Nat.le_trans hbs (by simp)) ?_)
          intro v2 w2 ho2 hg2 hb2
          have HO2 := Lib.hid ho2
          clear ho2 hg2
          go_wp2
          go_ret
          refine ⟨_, rfl, ?_, (hbw.alloc hbs _).trans hb2⟩
          rw [HE.out, HG2.out]
          exact HO2.out
        · have hft' : ¬ (fk : Int) < (t : Int) := by omega
          rw [if_neg hft, List.append_nil] at hg2
          have HG2 := Lib.hid hg2
          clear hst hg2 hgap
          go_wp2_with fail
          go_ret
          refine ⟨_, rfl, ?_, hbw.alloc hbs _⟩
          rw [HE.out, HG2.out]
          exact hout.out.alloc _
      · have htx' : ¬ (t : Int) ≤ (x : Int) := by omega
        have hst := gap_step (f := fk) hp.out htx
        have hg2 := hgap.out
        rw [hst, ← List.append_assoc] at hg2
        by_cases hfx : fk < x
        · have hfx' : (fk : Int) < (x : Int) := by omega
          rw [if_pos hfx] at hg2
          have HG2 := Lib.hid hg2
          clear hst hg2 hgap hp
          go_wp2_with (at_builtin; refine app1p spnEl fk x rfl (.tmp 39) (.tmp 44) rfl rfl (hout.out.alloc _) rfl (by simp) hroom (Nat.le_trans hbs (by simp)) ?_)
          intro v2 w2 ho2 hg2 hb2
          have HO2 := Lib.hid ho2
          have hpb := (Blk.new wr 71 #[.int .u64 (x : Int), .int .u64 (y : Int)])
          have hne : some wr.heap.size ≠ (Value.slice A7 n7 c7).ownBlock := fun e => by have := (hout.out.lt wr.heap.size e.symm).2; omega
          have hpb2 : Blk w2 wr.heap.size 71 #[.int .u64 (x : Int), .int .u64 (y : Int)] := (hg2.block wr.heap.size hpb.lt hne).trans hpb
          have z1 : w2.cell? ⟨wr.heap.size, 1, none⟩ = some (.int .u64 (y : Int)) := by rw [hpb2.cell]; rfl
          have HBW := Lib.hid ((hbw.alloc hbs (.cells #[.int .u64 (x : Int), .int .u64 (y : Int)] 71)).trans hb2)
          clear ho2 hg2 hpb hpb2 hne hb2
          go_wp2_with fail
          go_roundw
          case rel => exact ⟨k + 1, y, out ++ [(fk, x)], by omega, by go_num, rfl, HG2, HO2, HBW.out, by rw [List.length_append]; simp; omega⟩
          case measure => simp [intOf]; omega
        · have hfx' : ¬ (fk : Int) < (x : Int) := by omega
          rw [if_neg hfx, List.append_nil] at hg2
          have HG2 := Lib.hid hg2
          clear hst hg2 hgap hp
          go_wp2_with fail
          go_roundw
          case rel => exact ⟨k + 1, y, out, by omega, by go_num, rfl, HG2, Lib.hid (hout.out.alloc _), hbw.alloc hbs _, by omega⟩
          case measure => simp [intOf]; omega
    · have hge : ¬ (k : Int) < (n : Int) := by omega
      have hst := gap_stop (l := r.drop k) (f := fk) (t := t) (by intro p hp2; rw [List.head?_drop, List.getElem?_eq_none (by rw [HLN.out]; omega)] at hp2; cases hp2)
      have hg2 := hgap.out
      rw [hst] at hg2
      by_cases hft : fk < t
      · have hft' : (fk : Int) < (t : Int) := by omega
        rw [if_pos hft] at hg2
        have HG2 := Lib.hid hg2
        clear hst hg2 hgap
        go_wp2_with (at_builtin; refine app1p spnEl fk t rfl (.tmp 52) (.tmp 56) rfl rfl hout.out rfl rfl hroom hbs ?_)
        intro v2 w2 ho2 hg2 hb2
        have HO2 := Lib.hid ho2
        clear ho2 hg2
        go_wp2
        go_ret
        refine ⟨_, rfl, ?_, hbw.trans hb2⟩
        rw [HE.out, HG2.out]
        exact HO2.out
      · have hft' : ¬ (fk : Int) < (t : Int) := by omega
        rw [if_neg hft, List.append_nil] at hg2
        have HG2 := Lib.hid hg2
        clear hst hg2 hgap
        go_wp2_with fail
        go_ret
        refine ⟨_, rfl, ?_, hbw⟩
        rw [HE.out, HG2.out]
        exact hout.out
end Go.Proofs.Ytnngjbieoakanaa
