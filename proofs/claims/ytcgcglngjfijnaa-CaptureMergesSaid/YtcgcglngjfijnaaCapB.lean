/- Layer 34: the records that some bytes are. -/
import Derived.Test.YtcgcglngjfijnaaCapA
import Derived.Test.YtcgcglngjfijnaaCapM
import Derived.Test.YtcgcglngjfijnaaOp4M
import Derived.Test.YtcgcglngjfijnaaSz3
import Derived.Test.YtcgcglngjfijnaaOrd
namespace Go.Proofs.Ytcgcglngjfijnaa
open Go.RowKit
set_option linter.unusedVariables false
set_option linter.unusedSimpArgs false
theorem Rd.cut1 {w : World} {B n c h : Nat} {A : Option Addr} {k : IntKind} {l : List Nat} (hr : Rd w B 1 A n (ns k l)) (hk : h ≤ n) (hc : n ≤ c) : Rd w B 1 (cutA A c h 1) (n - h) (ns k (l.drop h)) := by
  have e : cutA A c h 1 = (if c = h then A else A.map (·.add h)) := by unfold cutA; rw [Nat.mul_one]
  rw [e]
  exact hr.dropN hk hc
/-- Records one after the other. -/
def parR : Nat → Nat → List Nat → Option (List Rcd × List Nat)
  | 0, _, b => some ([], b)
  | k + 1, t, b => if b.length < 7 then none else if b.length < 7 + ub ((b.drop 5).take 2) then none else
      (parR k (t + ub (b.take 4)) (b.drop (7 + ub ((b.drop 5).take 2)))).map fun p => ((((t + ub (b.take 4) : Nat) : Int), ((b.getD 4 0 / 128 : Nat) : Int), ((b.getD 4 0 % 128 : Nat) : Int), (b.drop 7).take (ub ((b.drop 5).take 2))) :: p.1, p.2)
theorem parR_succ (k t : Nat) (b : List Nat) : parR (k + 1) t b = if b.length < 7 then none else if b.length < 7 + ub ((b.drop 5).take 2) then none else
      (parR k (t + ub (b.take 4)) (b.drop (7 + ub ((b.drop 5).take 2)))).map fun p => ((((t + ub (b.take 4) : Nat) : Int), ((b.getD 4 0 / 128 : Nat) : Int), ((b.getD 4 0 % 128 : Nat) : Int), (b.drop 7).take (ub ((b.drop 5).take 2))) :: p.1, p.2) := rfl
def h16 (x : Nat) : Prop := x < 65536
/-- A tick's bound (behind a name). -/
def tkB (k tk : Nat) : Prop := tk ≤ k * 4294967296
theorem cut7 {l : List Nat} (h : 7 ≤ l.length) : cut (l.take 7) [4, 1, 2] = some ([ub (l.take 4), l.getD 4 0, ub ((l.drop 5).take 2)], []) := by
  match l, h with
  | a0 :: a1 :: a2 :: a3 :: a4 :: a5 :: a6 :: r, _ => simp [cut, okS, ub]
theorem rsay_snoc (l : List Rb) (p : Rb) : rsay (l ++ [p]) = rsay l ++ [(p.1, p.2.1, p.2.2.1, p.2.2.2.l)] := by simp [rsay]
theorem recel : El Try.prog 85 93 (.agg #[.int .i64 0, .int .i64 0, .int .i64 0, .slice none 0 0]) 4 48 := ⟨Try.underlying85, by kernel_rfl, rfl, by omega, by omega⟩
/-- What cut answers. -/
def CutP (many : Nat) (lb : List Nat) (Bb : Nat) (w w' : World) (e : Ending) : Prop :=
  (∃ (A' : Option Addr) (n' c' : Nat) (lr : List Rb) (rest : List Nat) (ok : Bool), e = .returned (.tuple #[.slice A' n' c', .bool ok]) ∧ parR many 0 lb = some (rsay lr, rest) ∧ (ok = true ↔ rest = []) ∧ w'.ownsRow w.heap.size 93 4 (.slice A' n' c') n' (rbcs lr) ∧ ∀ p ∈ lr, Rd w Bb 1 p.2.2.2.A p.2.2.2.n (ns .u8 p.2.2.2.l) ∧ p.2.2.2.n ≤ p.2.2.2.c ∧ p.2.2.2.c ≤ maxLen) ∨
  (parR many 0 lb = none ∧ e = .returned (.tuple #[.slice none 0 0, .bool false]))
set_option maxRecDepth 20000 in
set_option maxHeartbeats 8000000 in
theorem ccut_any (A : Option Addr) (n c Bb many : Nat) (lb : List Nat) (w : World) (h : Rd w Bb 1 A n (ns .u8 lb)) (hB : Bb ≤ w.heap.size) (hnc : n ≤ c) (hcm : c ≤ maxLen) (hb : ∀ x ∈ lb, x < 256) (hn : n ≤ 50000) (hmany : many ≤ 65535) :
    Calls Try.prog 118 #[.slice A n c, .int .i64 (many : Int)] w fun e w' => CutP many lb Bb w w' e ∧ Below w.heap.size w w' := by
  have HR := Lib.hid h
  have HB := Lib.hid hb
  have HNC := Lib.hid (And.intro hnc hcm)
  clear h hb hcm hnc
  go_enter Try.func118, Try.ntmps118
  go_wp2_with fail
  go_loopw [0, 6, 7, 12] (fun bv lv tv iv wr => ∃ (k tk N C : Nat) (X : Option Addr) (r : List Nat) (lr : List Rb), k ≤ many ∧ iv = .int .i64 (k : Int) ∧ tv = .int .i64 (tk : Int) ∧ tkB k tk ∧ bv = .slice X N C ∧ N ≤ n ∧ Hid (N ≤ C ∧ C ≤ maxLen) ∧ Hid (Rd w Bb 1 X N (ns .u8 r)) ∧ Hid (∀ x ∈ r, x < 256) ∧ Hid (wr.ownsRow w.heap.size 93 4 lv k (rbcs lr)) ∧ Hid (∀ p ∈ lr, Rd w Bb 1 p.2.2.2.A p.2.2.2.n (ns .u8 p.2.2.2.l) ∧ p.2.2.2.n ≤ p.2.2.2.c ∧ p.2.2.2.c ≤ maxLen) ∧ Hid (parR many 0 lb = (parR (many - k) tk r).map fun p => (rsay lr ++ p.1, p.2)) ∧ Below w.heap.size w wr) (fun _ _ _ iv _ => many - (intOf iv).toNat)
  case atStart => exact ⟨0, 0, n, c, A, lb, [], Nat.zero_le _, rfl, rfl, Nat.zero_le _, rfl, Nat.le_refl _, HNC, HR, HB, Lib.hid (World.ownsRow_nil _ _ _ _), Lib.hid (by simp), Lib.hid (by simp [rsay]), Below.refl _ _⟩
  case round =>
    obtain ⟨k, tk, N, C, X, r, lr, hk, rfl, rfl, htk, rfl, hNn, hNC, hrd, hrb, hown, hbod, hpar, hbw⟩ := hrel
    clear HR HB HNC
    obtain ⟨A7, c7, rfl, _, _, _⟩ := own_form hown.out
    have hlen : r.length = N := hrd.out.natLen
    by_cases hlt : k < many
    · have hlt' : (k : Int) < (many : Int) := by omega
      obtain ⟨j, hj⟩ : ∃ j, many - k = j + 1 := ⟨many - k - 1, by omega⟩
      have hp := hpar.out
      rw [hj] at hp
      rw [parR_succ] at hp
      by_cases h7 : N < 7
      · have h7' : (N : Int) < 7 := by omega
        rw [if_pos (by omega)] at hp
        have HP := Lib.hid hp
        clear hp hj hpar hlen
        go_wp2_with fail
        go_ret2
        exact ⟨.inr ⟨HP.out, rfl⟩, hbw⟩
      have h7' : ¬ (N : Int) < 7 := by omega
      have h7d : decide ((N : Int) < 7) = false := decide_eq_false h7'
      rw [if_neg (by omega)] at hp
      have hub2 := ub_lt 2 ((r.drop 5).take 2) (by rw [List.length_take, List.length_drop]; omega) fun x hx => hrb.out x (List.mem_of_mem_drop (List.mem_of_mem_take hx))
      have hub4 := ub_lt 4 (r.take 4) (by rw [List.length_take]; omega) fun x hx => hrb.out x (List.mem_of_mem_take hx)
      have HQ32 := Lib.hid (show q32 (ub (r.take 4)) from hub4)
      have HM16 := Lib.hid (show h16 (ub ((r.drop 5).take 2)) from hub2)
      clear hub4 hub2
      have hg4 : r.getD 4 0 < 256 := hrb.out _ (mem_getD r 0 4 (by omega))
      have hc7 := cut7 (l := r) (by omega)
      generalize hd : ub (r.take 4) = d at *
      generalize hh : r.getD 4 0 = hb8 at *
      generalize hm : ub ((r.drop 5).take 2) = m at *
      have hu : Try.prog.underlying 51 = some (.slice (Try.prog.elem 51)) := by unfold Program.elem; rw [Try.underlying51]
      have hs1 : ∀ w, (Instr.slice 51 (.slice X N C) none (some (.int .i64 7)) none).run Try.prog w = .ok (.slice X 7 C) w := fun w => run_cut_h pel8 X N C 7 (by have := hNC.out; omega) w
      have hs2 : ∀ w, (Instr.sliceAt 51 (.slice X N C) none (some (.int .i64 7)) none).run Try.prog w = .ok (.slice X 7 C) w := fun w => (run_sliceAt_slice w _ _ _ _ _ hu).trans (hs1 w)
      have hA : Below wr.heap.size wr (wr.alloc (.cells #[.int .i64 4, .int .i64 1, .int .i64 2] 3)) := (Below.refl _ _).alloc (Nat.le_refl _) _
      have hzs := Zats.lit (w := wr) (e := 3) (k := .i64) (ss := [4, 1, 2]) (n := 3) #[.int .i64 4, .int .i64 1, .int .i64 2] rfl rfl (by unfold maxLen; omega)
      have hbA := hbw.trans (hA.mono hbw.size)
      have HALL := Lib.hid (pall_any X (some ⟨wr.heap.size, 0, none⟩) 7 3 C 3 (r.take 7) [4, 1, 2] _ (((hrd.out.takeN (show 7 ≤ N by omega)).mono hB).into hbA) hzs.rd (by have := hNC.out; omega) (fun x hx => hrb.out x (List.mem_of_mem_take hx)) (by omega) (by omega))
      have OA := Lib.hid (own_below hown.out hA fun g hg => (own_lt4 hown.out g hg).2)
      have BA := Lib.hid hbA
      have HC7 := Lib.hid hc7
      have HP := Lib.hid hp
      clear hA hzs hbA hc7 hp hown hbw hpar hd hh hm hlen hu
      go_wp2_with fail
      clear hs1 hs2
      refine HALL.out.mono ?_
      rintro e w2 ⟨hb2, hres⟩
      have O2 := Lib.hid (own_below OA.out hb2 fun g hg => (own_lt4 OA.out g hg).2)
      have B2 := Lib.hid (BA.out.trans (hb2.mono BA.out.size))
      generalize wr.alloc (.cells #[.int .i64 4, .int .i64 1, .int .i64 2] 3) = wa at *
      rcases hres with ⟨xs, v, hcut, rfl, hN2⟩ | ⟨hno, _⟩
      rotate_left
      · exact absurd HC7.out (hno _)
      have exs := hcut.symm.trans HC7.out
      injection exs with exs
      injection exs with exs _
      subst exs
      obtain ⟨g, cg, rfl, hgB, hgl, hgc, hcell⟩ := nats_open hN2 (by simp)
      have c0 := hcell 0 _ rfl
      have c1 := hcell 1 _ rfl
      have c2 := hcell 2 _ rfl
      simp only [List.length_cons, List.length_nil] at hgc ⊢
      clear hcell hcut hN2 hb2 HALL OA BA HC7
      have HU := Lib.hid (show Try.prog.underlying 51 = some (.slice (Try.prog.elem 51)) by unfold Program.elem; rw [Try.underlying51])
      obtain ⟨E, hE⟩ : ∃ E, E = 7 + m := ⟨_, rfl⟩
      have eE : (7 : Int) + (m : Int) = (E : Int) := by omega
      have hm16 : m < 65536 := HM16.out
      have wm : IntKind.i64.wrap (m : Int) = (m : Int) := by rw [IntKind.wrap_i64]; omega
      have wE : IntKind.i64.wrap ((7 : Int) + (m : Int)) = (E : Int) := by rw [eE, IntKind.wrap_i64]; omega
      have hp := HP.out
      rw [← hE] at hp
      by_cases heN : N < E
      · have heN' : (N : Int) < (E : Int) := by omega
        rw [if_pos (by have := hrd.out.natLen; omega)] at hp
        have HP2 := Lib.hid hp
        clear hp hE eE HP HU
        go_wp2_with fail
        go_ret2
        exact ⟨.inr ⟨HP2.out, rfl⟩, B2.out⟩
      have heN' : ¬ (N : Int) < (E : Int) := by omega
      have heD : decide ((N : Int) < (E : Int)) = false := decide_eq_false heN'
      rw [if_neg (by have := hrd.out.natLen; omega)] at hp
      obtain ⟨t2, ht2⟩ : ∃ t2, t2 = tk + d := ⟨_, rfl⟩
      have hk65 : k < 65535 := by omega
      have hd32 : d < 4294967296 := HQ32.out
      have ht2b : tkB (k + 1) t2 := by unfold tkB at htk ⊢; omega
      have htkb : tk < 300000000000000 := by unfold tkB at htk; omega
      have et2 : (tk : Int) + (d : Int) = (t2 : Int) := by omega
      have wdd : IntKind.i64.wrap (d : Int) = (d : Int) := by rw [IntKind.wrap_i64]; omega
      have wt2 : IntKind.i64.wrap ((tk : Int) + (d : Int)) = (t2 : Int) := by rw [et2, IntKind.wrap_i64]; omega
      obtain ⟨hq, hhq⟩ : ∃ hq, hq = hb8 / 128 := ⟨_, rfl⟩
      obtain ⟨hr8, hhr⟩ : ∃ hr, hr = hb8 % 128 := ⟨_, rfl⟩
      have eq1 : (hb8 : Int).tdiv 128 = (hq : Int) := by rw [hhq, Int.tdiv_eq_ediv_of_nonneg (by omega)]; omega
      have er1 : (hb8 : Int).tmod 128 = (hr8 : Int) := by rw [hhr, Int.tmod_eq_emod_of_nonneg (by omega)]; omega
      have wq1 : IntKind.u64.wrap (hq : Int) = (hq : Int) := by rw [IntKind.wrap_u64]; omega
      have wq2 : IntKind.i64.wrap (hq : Int) = (hq : Int) := by rw [IntKind.wrap_i64]; omega
      have wr1 : IntKind.u64.wrap (hr8 : Int) = (hr8 : Int) := by rw [IntKind.wrap_u64]; omega
      have wr2 : IntKind.i64.wrap (hr8 : Int) = (hr8 : Int) := by rw [IntKind.wrap_i64]; omega
      obtain ⟨Cy, hCy⟩ : ∃ Cy, Cy = C - 7 := ⟨_, rfl⟩
      have em : E - 7 = m := by omega
      have hs1 : ∀ w, (Instr.slice 51 (.slice X N C) (some (.int .i64 7)) (some (.int .i64 (E : Int))) none).run Try.prog w = .ok (.slice (cutA X C 7 1) m Cy) w := fun w => by
        have := run_cut_lh pel8 X N C 7 E (by omega) (by have := hNC.out; omega) w
        rw [em, ← hCy] at this
        exact this
      have hs2 : ∀ w, (Instr.sliceAt 51 (.slice X N C) (some (.int .i64 7)) (some (.int .i64 (E : Int))) none).run Try.prog w = .ok (.slice (cutA X C 7 1) m Cy) w := fun w => (run_sliceAt_slice w _ _ _ _ _ HU.out).trans (hs1 w)
      obtain ⟨N2, hN2⟩ : ∃ N2, N2 = N - E := ⟨_, rfl⟩
      obtain ⟨C2, hC2⟩ : ∃ C2, C2 = C - E := ⟨_, rfl⟩
      have hs3 : ∀ w, (Instr.slice 51 (.slice X N C) (some (.int .i64 (E : Int))) none none).run Try.prog w = .ok (.slice (cutA X C E 1) N2 C2) w := fun w => by
        have := run_cut_l pel8 X N C E (by omega) w
        rw [← hN2, ← hC2] at this
        exact this
      have hs4 : ∀ w, (Instr.sliceAt 51 (.slice X N C) (some (.int .i64 (E : Int))) none none).run Try.prog w = .ok (.slice (cutA X C E 1) N2 C2) w := fun w => (run_sliceAt_slice w _ _ _ _ _ HU.out).trans (hs3 w)
      have hrY := (hrd.out.cut1 (h := 7) (c := C) (by omega) hNC.out.1).takeN (show m ≤ N - 7 by omega)
      have hrZ := hrd.out.cut1 (h := E) (c := C) (by omega) hNC.out.1
      rw [← hN2] at hrZ
      generalize cutA X C 7 1 = Y at *
      generalize cutA X C E 1 = Z at *
      obtain ⟨bd, hbd⟩ : ∃ bd, bd = (r.drop 7).take m := ⟨_, rfl⟩
      rw [← hbd] at hrY hp
      have HPN := Lib.hid (show parR many 0 lb = (parR (many - (k + 1)) t2 (r.drop E)).map fun p => (rsay (lr ++ [((t2 : Int), (hq : Int), (hr8 : Int), (⟨Y, m, Cy, bd⟩ : Body))]) ++ p.1, p.2) from by
        rw [show many - (k + 1) = j by omega, hp, ht2, hhq, hhr, rsay_snoc]
        rw [Option.map_map]
        congr 1
        funext p
        simp)
      have HBOD := Lib.hid (show ∀ p ∈ lr ++ [((t2 : Int), (hq : Int), (hr8 : Int), (⟨Y, m, Cy, bd⟩ : Body))], Rd w Bb 1 p.2.2.2.A p.2.2.2.n (ns .u8 p.2.2.2.l) ∧ p.2.2.2.n ≤ p.2.2.2.c ∧ p.2.2.2.c ≤ maxLen from by
        intro p hp
        rcases List.mem_append.1 hp with hp | hp
        · exact hbod.out p hp
        · simp only [List.mem_singleton] at hp
          subst hp
          exact ⟨hrY, by dsimp only; have := hNC.out; omega, by dsimp only; have := hNC.out; omega⟩)
      have HRZ := Lib.hid hrZ
      have HRB := Lib.hid (show ∀ x ∈ r.drop E, x < 256 from fun x hx => hrb.out x (List.mem_of_mem_drop hx))
      have HNZ := Lib.hid (show N2 ≤ C2 ∧ C2 ≤ maxLen from by have := hNC.out; omega)
      have hN2n : N2 ≤ n := by omega
      clear hp hE eE HP HU hCy em hN2 hC2 hrY hrZ hbd ht2 et2 hhq hhr hbod hrb hrd hj hg4 hNC hd32 htkb HQ32 HM16 htk hm16
      go_wp2_with fail
      refine wp_ord [(0, .pure), (1, .pure), (2, .pure), (3, .pure), (4, .read), (5, .pure), (6, .pure), (7, .pure), (8, .pure), (9, .read), (10, .pure), (11, .pure), (12, .pure), (13, .pure), (14, .pure), (15, .pure), (16, .sole), (17, .sole), (18, .pure)] [17] (by kernel_rfl) (by kernel_rfl) (fun QQ hQ wd hwd => ?_); simp only [List.map_cons, List.map_nil, List.getD_cons_zero, List.getD_cons_succ]
      have hD : Below w2.heap.size w2 wd := by rw [hwd.out]; exact (Below.refl _ _).drew
      have y1 : wd.cell? ⟨g, 1, none⟩ = some (.int .u64 (hb8 : Int)) := by rw [hwd.out]; exact c1
      have OD := Lib.hid (own_below O2.out hD fun g hg => (own_lt4 O2.out g hg).2)
      have BD := Lib.hid (B2.out.trans (hD.mono B2.out.size))
      clear hD hwd c0 c1 c2 O2 B2
      (refine o_pure (v := ?_) (by rfl) (fun w' => ?_) ?_; rotate_left; (focus (go_simp; (try with_reducible rfl))); (try simp only [Act.put, List.setIfInBounds_toArray, List.set_cons_zero, List.set_cons_succ]))
      (refine o_pure (v := ?_) (by rfl) (fun w' => ?_) ?_; rotate_left; (focus (go_simp; (try with_reducible rfl))); (try simp only [Act.put, List.setIfInBounds_toArray, List.set_cons_zero, List.set_cons_succ]))
      (refine o_pure (v := ?_) (by rfl) (fun w' => ?_) ?_; rotate_left; (focus (go_simp; (try with_reducible rfl))); (try simp only [Act.put, List.setIfInBounds_toArray, List.set_cons_zero, List.set_cons_succ]))
      (refine o_pure (v := ?_) (by rfl) (fun w' => ?_) ?_; rotate_left; (focus (go_simp; (try with_reducible rfl))); (try simp only [Act.put, List.setIfInBounds_toArray, List.set_cons_zero, List.set_cons_succ]))
      (refine o_load _ (by rfl) rfl rfl (by assumption) (by kernel_rfl) ?_; simp only [Act.put, List.setIfInBounds_toArray, List.set_cons_zero, List.set_cons_succ])
      (refine o_pure (v := ?_) (by rfl) (fun w' => ?_) ?_; rotate_left; (focus (go_simp; (try with_reducible rfl))); (try simp only [Act.put, List.setIfInBounds_toArray, List.set_cons_zero, List.set_cons_succ]))
      (refine o_pure (v := ?_) (by rfl) (fun w' => ?_) ?_; rotate_left; (focus (go_simp; (try with_reducible rfl))); (try simp only [Act.put, List.setIfInBounds_toArray, List.set_cons_zero, List.set_cons_succ]))
      (refine o_pure (v := ?_) (by rfl) (fun w' => ?_) ?_; rotate_left; (focus (go_simp; (try with_reducible rfl))); (try simp only [Act.put, List.setIfInBounds_toArray, List.set_cons_zero, List.set_cons_succ]))
      (refine o_pure (v := ?_) (by rfl) (fun w' => ?_) ?_; rotate_left; (focus (go_simp; (try with_reducible rfl))); (try simp only [Act.put, List.setIfInBounds_toArray, List.set_cons_zero, List.set_cons_succ]))
      (refine o_load _ (by rfl) rfl rfl (by assumption) (by kernel_rfl) ?_; simp only [Act.put, List.setIfInBounds_toArray, List.set_cons_zero, List.set_cons_succ])
      (refine o_pure (v := ?_) (by rfl) (fun w' => ?_) ?_; rotate_left; (focus (go_simp; (try with_reducible rfl))); (try simp only [Act.put, List.setIfInBounds_toArray, List.set_cons_zero, List.set_cons_succ]))
      (refine o_pure (v := ?_) (by rfl) (fun w' => ?_) ?_; rotate_left; (focus (go_simp; (try with_reducible rfl))); (try simp only [Act.put, List.setIfInBounds_toArray, List.set_cons_zero, List.set_cons_succ]))
      (refine o_pure (v := ?_) (by rfl) (fun w' => ?_) ?_; rotate_left; (focus (go_simp; (try with_reducible rfl))); (try simp only [Act.put, List.setIfInBounds_toArray, List.set_cons_zero, List.set_cons_succ]))
      (refine o_pure (v := ?_) (by rfl) (fun w' => ?_) ?_; rotate_left; (focus (go_simp; (try with_reducible rfl))); (try simp only [Act.put, List.setIfInBounds_toArray, List.set_cons_zero, List.set_cons_succ]))
      (refine o_pure (v := ?_) (by rfl) (fun w' => ?_) ?_; rotate_left; (focus (go_simp; (try with_reducible rfl))); (try simp only [Act.put, List.setIfInBounds_toArray, List.set_cons_zero, List.set_cons_succ]))
      (refine o_pure (v := ?_) (by rfl) (fun w' => ?_) ?_; rotate_left; (focus (go_simp; (try with_reducible rfl))); (try simp only [Act.put, List.setIfInBounds_toArray, List.set_cons_zero, List.set_cons_succ]))
      clear y1
      refine o_sole (fun K hK => ?_)
      go_wp2_with fail
      refine hK _ _ (fun _ => Ext.of ((Below.refl _ _).alloc (Nat.le_refl _) _)) ?_; clear hK K
      refine o_sole (fun K hK => ?_)
      refine appZ recel #[.int .i64 (t2 : Int), .int .i64 (hq : Int), .int .i64 (hr8 : Int), .slice Y m Cy] rfl (rbcs_one [((t2 : Int), (hq : Int), (hr8 : Int), (⟨Y, m, Cy, bd⟩ : Body))]) rfl (.tmp 39) (.tmp 55) rfl rfl OD.out rfl rfl (room_ge (by omega)) BD.out.size ?_
      intro v3 w3 ho3 _ hb3
      have O3 := Lib.hid (show w3.ownsRow w.heap.size 93 4 v3 (k + 1) (rbcs (lr ++ [((t2 : Int), (hq : Int), (hr8 : Int), (⟨Y, m, Cy, bd⟩ : Body))])) from by rw [rbcs_append]; exact ho3)
      have B3 := Lib.hid (BD.out.trans hb3)
      obtain ⟨A8, c8, rfl, _, _, _⟩ := own_form O3.out
      refine wpList_nil ?_
      refine hK _ _ (fun h => by cases h) ?_; clear hK K
      clear ho3 hb3 OD BD
      (refine o_pure (v := ?_) (by rfl) (fun w' => ?_) ?_; rotate_left; (focus (go_simp; (try with_reducible rfl))); (try simp only [Act.put, List.setIfInBounds_toArray, List.set_cons_zero, List.set_cons_succ]))
      refine o_nil (hQ.out _ _ ?_); clear hQ QQ
      go_wp2_with fail
      go_roundw
      case rel => exact ⟨k + 1, t2, N2, C2, Z, r.drop E, _, by omega, by go_num, rfl, ht2b, rfl, hN2n, HNZ, HRZ, HRB, O3, HBOD, HPN, B3.out⟩
      case measure => simp [intOf]; omega
    · have hge : ¬ (k : Int) < (many : Int) := by omega
      have hkm : k = many := by omega
      have hp := hpar.out
      rw [hkm, Nat.sub_self] at hp
      have hp2 : parR many 0 lb = some (rsay lr, r) := by rw [hp]; simp [parR]
      have HP := Lib.hid hp2
      subst hkm
      obtain ⟨ok, hok⟩ : ∃ ok, ok = decide (N = 0) := ⟨_, rfl⟩
      have HOK := Lib.hid (show ok = true ↔ r = [] from by
        rw [hok, decide_eq_true_iff, ← hlen]
        exact List.length_eq_zero_iff)
      have e0 : ((N : Int) == 0) = ok := by rw [hok]; by_cases h0 : N = 0 <;> simp [h0] <;> omega
      clear hp hp2 hpar hok hlen
      go_wp2_with fail
      go_ret2
      exact ⟨.inl ⟨A7, k, c7, lr, r, ok, rfl, HP.out, HOK.out, hown.out, hbod.out⟩, hbw⟩
end Go.Proofs.Ytcgcglngjfijnaa
