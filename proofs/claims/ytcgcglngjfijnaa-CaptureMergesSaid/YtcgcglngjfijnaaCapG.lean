/- Layer 34: two captures as one. -/
import Derived.Test.YtcgcglngjfijnaaCapA
import Derived.Test.YtcgcglngjfijnaaCapB
import Derived.Test.YtcgcglngjfijnaaQx
import Derived.Test.YtcgcglngjfijnaaOrd
import Derived.Test.YtcgcglngjfijnaaSz3
namespace Go.Proofs.Ytcgcglngjfijnaa
open Go.RowKit
set_option linter.unusedVariables false
set_option linter.unusedSimpArgs false
/-- Records by when they were seen, the first one's ahead. -/
def mgR : List Rb → List Rb → List Rb
  | [], m => m
  | p :: l, [] => p :: l
  | p :: l, q :: m => if q.1 < p.1 then q :: mgR (p :: l) m else p :: mgR l (q :: m)
termination_by l m => l.length + m.length
theorem mgR_nil (m : List Rb) : mgR [] m = m := by rw [mgR]
theorem mgR_nil2 (l : List Rb) : mgR l [] = l := by cases l <;> rw [mgR]
theorem mgR_b {p q : Rb} {l m : List Rb} (h : q.1 < p.1) : mgR (p :: l) (q :: m) = q :: mgR (p :: l) m := by rw [mgR, if_pos h]
theorem mgR_a {p q : Rb} {l m : List Rb} (h : ¬ q.1 < p.1) : mgR (p :: l) (q :: m) = p :: mgR l (q :: m) := by rw [mgR, if_neg h]
theorem mgR_len : ∀ (l m : List Rb), (mgR l m).length = l.length + m.length
  | [], m => by rw [mgR_nil]; simp
  | p :: l, [] => by rw [mgR_nil2]; simp
  | p :: l, q :: m => by
    by_cases h : q.1 < p.1
    · rw [mgR_b h, List.length_cons, mgR_len (p :: l) m]; simp; omega
    · rw [mgR_a h, List.length_cons, mgR_len l (q :: m)]; simp; omega
termination_by l m => l.length + m.length
theorem mgR_mem : ∀ (l m : List Rb), ∀ p ∈ mgR l m, p ∈ l ∨ p ∈ m
  | [], m => fun p hp => by rw [mgR_nil] at hp; exact .inr hp
  | x :: l, [] => fun p hp => by rw [mgR_nil2] at hp; exact .inl hp
  | x :: l, q :: m => fun p hp => by
    by_cases h : q.1 < x.1
    · rw [mgR_b h] at hp
      rcases List.mem_cons.1 hp with rfl | hp
      · exact .inr (by simp)
      · rcases mgR_mem (x :: l) m p hp with h | h
        · exact .inl h
        · exact .inr (by simp [h])
    · rw [mgR_a h] at hp
      rcases List.mem_cons.1 hp with rfl | hp
      · exact .inl (by simp)
      · rcases mgR_mem l (q :: m) p hp with h | h
        · exact .inl (by simp [h])
        · exact .inr h
termination_by l m => l.length + m.length
/-- The first record of a row. -/
theorem Rd.rb0 {w : World} {B n : Nat} {A : Option Addr} {l : List Rb} (h : Rd w B 4 A n (rbcs l)) (hi : 0 < n) :
    ∃ (b off : Nat) (t s p : Int) (q : Body) (r : List Rb), A = some ⟨b, off, none⟩ ∧ b < B ∧ (∀ j x, [Value.int .i64 t, .int .i64 s, .int .i64 p, .slice q.A q.n q.c][j]? = some x → w.cell? ⟨b, off + j, none⟩ = some x) ∧ l = (t, s, p, q) :: r := by
  obtain ⟨b, off, e, hb, hc⟩ := h.2 (by omega)
  have hl : l.length = n := by have := h.1; rw [rbcs_len] at this; omega
  match l, hl with
  | [], hl => simp at hl; omega
  | (t, s, p, q) :: r, hl =>
    refine ⟨b, off, t, s, p, q, r, e, hb, fun j x hx => ?_, rfl⟩
    have hj : j < 4 := by have := (List.getElem?_eq_some_iff.1 hx).1; simpa using this
    rw [hc j (by omega), ← hx]
    match j, hj with
    | 0, _ => rfl
    | 1, _ => rfl
    | 2, _ => rfl
    | 3, _ => rfl
theorem rbcs_drop1 (p : Rb) (r : List Rb) : (rbcs (p :: r)).drop (1 * 4) = rbcs r := by rw [rbcs_cons]; rfl
theorem ret_sl {A : Option Addr} {n c m : Nat} (h : n = m) : Ending.returned (.slice A n c) = Ending.returned (.slice A m c) := by rw [h]
section
variable {P : Program} {w : World} {ops : Array Oper} {rest : List Oper} {o : Oper} {a : Act} {Q : Exit → Act → World → Prop} {t e : TypeId} {z : Value} {size bytes : Nat}
/-- make of an empty slice with room for n, of elements of any size. -/
theorem mkZ {kl kc : IntKind} (el : El P t e z size bytes) (hgd : o.guard = none) (l c : Operand) (ho : o.op = .makeSlice t l c)
    {base : Nat} (n : Nat) {C : Int} (hl : a.eval l = .int kl 0) (hc : a.eval c = .int kc C) (hC : C = (n : Int)) (hroom : n * bytes ≤ room) (hbase : base ≤ w.heap.size)
    (h : ∀ w', w'.ownsRow base e size (.slice (some ⟨w.heap.size, 0, none⟩) 0 n) 0 [] → Below base w w' → wpList P ops Q rest (a.put o.dst (.slice (some ⟨w.heap.size, 0, none⟩) 0 n)) w') : wpList P ops Q (o :: rest) a w := by
  obtain ⟨ht, hinf, hzs, hsz, hb1⟩ := el
  obtain ⟨i, hi, hz, hsize, hby⟩ := info_parts hinf
  have hbytes := room_le hroom
  have h63 : n ≤ 140737488355328 := Nat.le_trans (Nat.le_mul_of_pos_right _ hb1) hbytes
  refine wpList_make_own w hgd l c t ho base e i z size ht hi hz hsize kl kc C n hl hc hC (by rw [hby, Nat.mul_comm]; omega) (by unfold maxLen; omega) hbase fun w' h1 h2 => h w' h1 ?_
  exact (Below.refl _ _).grown h2 hbase fun k hk => by cases hk
end
/-- What Merge answers. -/
def MergeP (l : List Rb) (w' : World) (e : Ending) : Prop := ∃ (A : Option Addr) (n c : Nat) (lo : List Rb), e = .returned (.slice A n c) ∧ Rs w' A n c lo ∧ rsay lo = rsay l
set_option maxRecDepth 20000 in
set_option maxHeartbeats 8000000 in
theorem cmerge_any (A1 A2 : Option Addr) (n1 c1 n2 c2 : Nat) (l1 l2 : List Rb) (w : World) (h1 : Rs w A1 n1 c1 l1) (h2 : Rs w A2 n2 c2 l2) (hn1 : n1 ≤ 10000) (hn2 : n2 ≤ 10000) (hs1 : ∀ p ∈ l1, p.2.2.2.n ≤ 100000) (hs2 : ∀ p ∈ l2, p.2.2.2.n ≤ 100000) :
    Calls Try.prog 46 #[.slice A1 n1 c1, .slice A2 n2 c2] w fun e w' => MergeP (mgR l1 l2) w' e ∧ Below w.heap.size w w' := by
  have H1 := Lib.hid h1
  have H2 := Lib.hid h2
  have HS := Lib.hid (show ∀ p ∈ mgR l1 l2, p.2.2.2.n ≤ 100000 from fun p hp => by
    rcases mgR_mem l1 l2 p hp with h | h
    · exact hs1 p h
    · exact hs2 p h)
  have HML := Lib.hid (show (mgR l1 l2).length = n1 + n2 from by rw [mgR_len, h1.len, h2.len])
  obtain ⟨m, hm⟩ : ∃ m, m = n1 + n2 := ⟨_, rfl⟩
  have em : (n1 : Int) + (n2 : Int) = (m : Int) := by omega
  have wm : IntKind.i64.wrap ((n1 : Int) + (n2 : Int)) = (m : Int) := by rw [em, IntKind.wrap_i64]; omega
  have hR1 := Lib.hid h1.row
  have hR2 := Lib.hid h2.row
  have hC1 := h1.cap.1
  have hC2 := h2.cap.1
  have EM := Lib.hid em
  have HM := Lib.hid hm
  have hm3 : m ≤ 20000 := by omega
  clear h1 h2 hs1 hs2 em hm
  go_enter Try.func46, Try.ntmps46
  go_wp2_with (refine mkZ recel rfl _ _ rfl m rfl rfl (by first | exact EM.out | exact wm | rfl) (room_ge (by omega)) (Nat.le_refl _) ?_)
  intro w1 ho1 hb1
  have O1 := Lib.hid (show w1.ownsRow w.heap.size 93 4 (.slice (some ⟨w.heap.size, 0, none⟩) 0 m) 0 (rbcs []) from ho1)
  have B1 := Lib.hid hb1
  clear ho1 hb1
  go_wp2_with fail
  go_loopw [0, 1, 5] (fun av bv lv wr => ∃ (NA CA NB CB NL : Nat) (XA XB : Option Addr) (la lb lo : List Rb), av = .slice XA NA CA ∧ bv = .slice XB NB CB ∧ NA ≤ CA ∧ NB ≤ CB ∧ NA ≤ n1 ∧ NB ≤ n2 ∧ Hid (Rd w w.heap.size 4 XA NA (rbcs la)) ∧ Hid (Rd w w.heap.size 4 XB NB (rbcs lb)) ∧ Hid (lo.length = NL) ∧ Hid (wr.ownsRow w.heap.size 93 4 lv NL (rbcs lo)) ∧ Hid (lo ++ mgR la lb = mgR l1 l2) ∧ Below w.heap.size w wr) (fun av bv _ _ => lenOf av + lenOf bv)
  case atStart => exact ⟨n1, c1, n2, c2, 0, A1, A2, l1, l2, [], rfl, rfl, hC1, hC2, Nat.le_refl _, Nat.le_refl _, hR1, hR2, Lib.hid rfl, O1, Lib.hid (by simp), B1.out⟩
  case round =>
    obtain ⟨NA, CA, NB, CB, n7, XA, XB, la, lb, lo, rfl, rfl, hca, hcb, hna, hnb, hra, hrb, HN7, hown, hmg, hbw⟩ := hrel
    clear hR1 hR2 O1 B1
    have hla : la.length = NA := by have := hra.out.1; rw [rbcs_len] at this; omega
    have hlb : lb.length = NB := by have := hrb.out.1; rw [rbcs_len] at this; omega
    have HLO := Lib.hid (show n7 + NA + NB = m from by
      have := congrArg List.length hmg.out
      rw [List.length_append, mgR_len, HML.out, HN7.out, hla, hlb, ← HM.out] at this
      omega)
    by_cases ha : 0 < NA
    · have ha' : (0 : Int) < (NA : Int) := by omega
      have ha0 : ¬ NA ≤ 0 := by omega
      by_cases hb : 0 < NB
      · have hb' : (0 : Int) < (NB : Int) := by omega
        have hb0 : ¬ NB ≤ 0 := by omega
        obtain ⟨b1, o1, t1, s1, p1, q1, r1, rfl, hbb1, ce1, rfl⟩ := hra.out.rb0 ha
        obtain ⟨b2, o2, t2, s2, p2, q2, r2, rfl, hbb2, ce2, rfl⟩ := hrb.out.rb0 hb
        have k1 : wr.cell? ⟨b1, o1, none⟩ = some (.int .i64 t1) := (hbw.cell (p := ⟨b1, o1, none⟩) hbb1).trans (ce1 0 _ rfl)
        have k2 : wr.cell? ⟨b2, o2, none⟩ = some (.int .i64 t2) := (hbw.cell (p := ⟨b2, o2, none⟩) hbb2).trans (ce2 0 _ rfl)
        have CE1 := Lib.hid ce1
        have CE2 := Lib.hid ce2
        obtain ⟨A7, c7, rfl, _, _, _⟩ := own_form hown.out
        have hn7m : n7 + 1 ≤ 100000 := by have := HLO.out; omega
        clear ce1 ce2 hla hlb
        by_cases hlt : t2 < t1
        · have HLT := Lib.hid hlt
          have hltd : decide (t2 < t1) = true := decide_eq_true hlt
          clear hlt
          go_wp2_with fail
          refine wp_ext (by kernel_rfl) (by kernel_rfl) (fun QQ hQ => ?_)
          (first | (refine x_load _ (by rfl) rfl rfl (by assumption) (by kernel_rfl) ?_; simp only [Act.put, List.setIfInBounds_toArray, List.set_cons_zero, List.set_cons_succ]) | (refine x_val (v := ?_) (by rfl) (fun w' hx => ?_) ?_; rotate_left; (focus (go_simp; (try with_reducible rfl))); (try simp only [Act.put, List.setIfInBounds_toArray, List.set_cons_zero, List.set_cons_succ])))
          (first | (refine x_load _ (by rfl) rfl rfl (by assumption) (by kernel_rfl) ?_; simp only [Act.put, List.setIfInBounds_toArray, List.set_cons_zero, List.set_cons_succ]) | (refine x_val (v := ?_) (by rfl) (fun w' hx => ?_) ?_; rotate_left; (focus (go_simp; (try with_reducible rfl))); (try simp only [Act.put, List.setIfInBounds_toArray, List.set_cons_zero, List.set_cons_succ])))
          (first | (refine x_load _ (by rfl) rfl rfl (by assumption) (by kernel_rfl) ?_; simp only [Act.put, List.setIfInBounds_toArray, List.set_cons_zero, List.set_cons_succ]) | (refine x_val (v := ?_) (by rfl) (fun w' hx => ?_) ?_; rotate_left; (focus (go_simp; (try with_reducible rfl))); (try simp only [Act.put, List.setIfInBounds_toArray, List.set_cons_zero, List.set_cons_succ])))
          (first | (refine x_load _ (by rfl) rfl rfl (by assumption) (by kernel_rfl) ?_; simp only [Act.put, List.setIfInBounds_toArray, List.set_cons_zero, List.set_cons_succ]) | (refine x_val (v := ?_) (by rfl) (fun w' hx => ?_) ?_; rotate_left; (focus (go_simp; (try with_reducible rfl))); (try simp only [Act.put, List.setIfInBounds_toArray, List.set_cons_zero, List.set_cons_succ])))
          (first | (refine x_load _ (by rfl) rfl rfl (by assumption) (by kernel_rfl) ?_; simp only [Act.put, List.setIfInBounds_toArray, List.set_cons_zero, List.set_cons_succ]) | (refine x_val (v := ?_) (by rfl) (fun w' hx => ?_) ?_; rotate_left; (focus (go_simp; (try with_reducible rfl))); (try simp only [Act.put, List.setIfInBounds_toArray, List.set_cons_zero, List.set_cons_succ])))
          (first | (refine x_load _ (by rfl) rfl rfl (by assumption) (by kernel_rfl) ?_; simp only [Act.put, List.setIfInBounds_toArray, List.set_cons_zero, List.set_cons_succ]) | (refine x_val (v := ?_) (by rfl) (fun w' hx => ?_) ?_; rotate_left; (focus (go_simp; (try with_reducible rfl))); (try simp only [Act.put, List.setIfInBounds_toArray, List.set_cons_zero, List.set_cons_succ])))
          (first | (refine x_load _ (by rfl) rfl rfl (by assumption) (by kernel_rfl) ?_; simp only [Act.put, List.setIfInBounds_toArray, List.set_cons_zero, List.set_cons_succ]) | (refine x_val (v := ?_) (by rfl) (fun w' hx => ?_) ?_; rotate_left; (focus (go_simp; (try with_reducible rfl))); (try simp only [Act.put, List.setIfInBounds_toArray, List.set_cons_zero, List.set_cons_succ])))
          (first | (refine x_load _ (by rfl) rfl rfl (by assumption) (by kernel_rfl) ?_; simp only [Act.put, List.setIfInBounds_toArray, List.set_cons_zero, List.set_cons_succ]) | (refine x_val (v := ?_) (by rfl) (fun w' hx => ?_) ?_; rotate_left; (focus (go_simp; (try with_reducible rfl))); (try simp only [Act.put, List.setIfInBounds_toArray, List.set_cons_zero, List.set_cons_succ])))
          (first | (refine x_load _ (by rfl) rfl rfl (by assumption) (by kernel_rfl) ?_; simp only [Act.put, List.setIfInBounds_toArray, List.set_cons_zero, List.set_cons_succ]) | (refine x_val (v := ?_) (by rfl) (fun w' hx => ?_) ?_; rotate_left; (focus (go_simp; (try with_reducible rfl))); (try simp only [Act.put, List.setIfInBounds_toArray, List.set_cons_zero, List.set_cons_succ])))
          refine x_nil (hQ.out _ ?_); clear hQ QQ
          intro w5 hb5
          have O5 := Lib.hid (own_below hown.out hb5 fun g hg => (own_lt4 hown.out g hg).2)
          have B5 := Lib.hid (hbw.trans (hb5.mono hbw.size))
          clear hb5 hown hbw k1 k2
          obtain ⟨N3, hN3⟩ : ∃ N3, N3 = NB - 1 := ⟨_, rfl⟩
          obtain ⟨C3, hC3⟩ : ∃ C3, C3 = CB - 1 := ⟨_, rfl⟩
          have HU := Lib.hid (show Try.prog.underlying 85 = some (.slice (Try.prog.elem 85)) by unfold Program.elem; rw [Try.underlying85])
          have hs3 : ∀ w, (Instr.slice 85 (.slice (some ⟨b2, o2, none⟩) NB CB) (some (.int .i64 1)) none none).run Try.prog w = .ok (.slice (cutA (some ⟨b2, o2, none⟩) CB 1 4) N3 C3) w := fun w => by
            have := run_cut_l recel (some ⟨b2, o2, none⟩) NB CB 1 (by omega) w
            rw [← hN3, ← hC3] at this
            exact this
          have hs4 : ∀ w, (Instr.sliceAt 85 (.slice (some ⟨b2, o2, none⟩) NB CB) (some (.int .i64 1)) none none).run Try.prog w = .ok (.slice (cutA (some ⟨b2, o2, none⟩) CB 1 4) N3 C3) w := fun w => (run_sliceAt_slice w _ _ _ _ _ HU.out).trans (hs3 w)
          have hrZ := hrb.out.drop (k := 1) (cap := CB) (by omega) (by omega)
          rw [rbcs_drop1, ← hN3] at hrZ
          have hrZ2 : Rd w w.heap.size 4 (cutA (some ⟨b2, o2, none⟩) CB 1 4) N3 (rbcs r2) := hrZ
          have RZ := Lib.hid hrZ2
          generalize cutA (some ⟨b2, o2, none⟩) CB 1 4 = Z at *
          have HMG := Lib.hid (show (lo ++ [(t2, s2, p2, q2)]) ++ mgR ((t1, s1, p1, q1) :: r1) r2 = mgR l1 l2 from by
            rw [← hmg.out, mgR_b (p := (t1, s1, p1, q1)) (q := (t2, s2, p2, q2)) (by have := HLT.out; dsimp only; omega)]
            simp)
          have hNC3 : N3 ≤ C3 := by omega
          have hlt3 : N3 < NB := by omega
          clear hrZ hrZ2 hN3 hC3 HU hmg
          obtain ⟨qA, qn, qc, ql⟩ := q2
          dsimp only at *
          go_wp2_with fail
          refine wp_ord [(0, .pure), (1, .pure), (2, .pure), (3, .read), (6, .pure), (7, .pure), (4, .sole), (5, .sole), (8, .pure), (9, .pure)] [5] (by kernel_rfl) (by kernel_rfl) (fun QQ hQ wd hwd => ?_); simp only [List.map_cons, List.map_nil, List.getD_cons_zero, List.getD_cons_succ]
          have hD : Below w5.heap.size w5 wd := by rw [hwd.out]; exact (Below.refl _ _).drew
          have OD := Lib.hid (own_below O5.out hD fun g hg => (own_lt4 O5.out g hg).2)
          have BD := Lib.hid (B5.out.trans (hD.mono B5.out.size))
          have CD := Lib.hid (show ∀ j x, [Value.int .i64 t2, .int .i64 s2, .int .i64 p2, .slice qA qn qc][j]? = some x → wd.cell? ⟨b2, o2 + j, none⟩ = some x from fun j x hx => (BD.out.cell (p := ⟨b2, o2 + j, none⟩) hbb2).trans (CE2.out j x hx))
          clear hD hwd O5 B5
          (refine o_pure (v := ?_) (by rfl) (fun w' => ?_) ?_; rotate_left; (focus (go_simp; (try with_reducible rfl))); (try simp only [Act.put, List.setIfInBounds_toArray, List.set_cons_zero, List.set_cons_succ]))
          (refine o_pure (v := ?_) (by rfl) (fun w' => ?_) ?_; rotate_left; (focus (go_simp; (try with_reducible rfl))); (try simp only [Act.put, List.setIfInBounds_toArray, List.set_cons_zero, List.set_cons_succ]))
          (refine o_pure (v := ?_) (by rfl) (fun w' => ?_) ?_; rotate_left; (focus (go_simp; (try with_reducible rfl))); (try simp only [Act.put, List.setIfInBounds_toArray, List.set_cons_zero, List.set_cons_succ]))
          (refine o_loads _ [.int .i64 t2, .int .i64 s2, .int .i64 p2, .slice qA qn qc] (by rfl) rfl rfl (CD.out) (Nat.succ_pos _) (by kernel_rfl) (by kernel_rfl) ?_; simp only [Act.put, List.setIfInBounds_toArray, List.set_cons_zero, List.set_cons_succ])
          (refine o_pure (v := ?_) (by rfl) (fun w' => ?_) ?_; rotate_left; (focus (go_simp; (try with_reducible rfl))); (try simp only [Act.put, List.setIfInBounds_toArray, List.set_cons_zero, List.set_cons_succ]))
          (refine o_pure (v := ?_) (by rfl) (fun w' => ?_) ?_; rotate_left; (focus (go_simp; (try with_reducible rfl))); (try simp only [Act.put, List.setIfInBounds_toArray, List.set_cons_zero, List.set_cons_succ]))
          refine o_sole (fun K hK => ?_)
          go_wp2_with fail
          refine hK _ _ (fun _ => Ext.of ((Below.refl _ _).alloc (Nat.le_refl _) _)) ?_; clear hK K
          refine o_sole (fun K hK => ?_)
          refine appZ recel #[.int .i64 t2, .int .i64 s2, .int .i64 p2, .slice qA qn qc] rfl (rbcs_one [(t2, s2, p2, (⟨qA, qn, qc, ql⟩ : Body))]) rfl (.tmp 29) (.tmp 33) rfl rfl OD.out rfl rfl (room_ge (by omega)) BD.out.size ?_
          intro v3 w3 ho3 _ hb3
          have O3 := Lib.hid (show w3.ownsRow w.heap.size 93 4 v3 (n7 + 1) (rbcs (lo ++ [(t2, s2, p2, (⟨qA, qn, qc, ql⟩ : Body))])) from by rw [rbcs_append]; exact ho3)
          have HN8 := Lib.hid (show (lo ++ [(t2, s2, p2, (⟨qA, qn, qc, ql⟩ : Body))]).length = n7 + 1 from by rw [List.length_append, HN7.out]; rfl)
          have B3 := Lib.hid (BD.out.trans hb3)
          obtain ⟨A8, c8, rfl, _, _, _⟩ := own_form O3.out
          refine wpList_nil ?_
          refine hK _ _ (fun h => by cases h) ?_; clear hK K
          clear ho3 hb3 OD BD CD
          (refine o_pure (v := ?_) (by rfl) (fun w' => ?_) ?_; rotate_left; (focus (go_simp; (try with_reducible rfl))); (try simp only [Act.put, List.setIfInBounds_toArray, List.set_cons_zero, List.set_cons_succ]))
          (refine o_pure (v := ?_) (by rfl) (fun w' => ?_) ?_; rotate_left; (focus (go_simp; (try with_reducible rfl))); (try simp only [Act.put, List.setIfInBounds_toArray, List.set_cons_zero, List.set_cons_succ]))
          refine o_nil (hQ.out _ _ ?_); clear hQ QQ
          go_wp2_with fail
          go_roundw
          case rel => exact ⟨NA, CA, N3, C3, n7 + 1, _, _, _, r2, _, rfl, rfl, hca, hNC3, hna, by omega, hra, RZ, HN8, O3, HMG, B3.out⟩
          case measure => simp [lenOf]; omega
        · have HLT := Lib.hid hlt
          have hltd : decide (t2 < t1) = false := decide_eq_false hlt
          clear hlt
          go_wp2_with fail
          refine wp_ext (by kernel_rfl) (by kernel_rfl) (fun QQ hQ => ?_)
          (first | (refine x_load _ (by rfl) rfl rfl (by assumption) (by kernel_rfl) ?_; simp only [Act.put, List.setIfInBounds_toArray, List.set_cons_zero, List.set_cons_succ]) | (refine x_val (v := ?_) (by rfl) (fun w' hx => ?_) ?_; rotate_left; (focus (go_simp; (try with_reducible rfl))); (try simp only [Act.put, List.setIfInBounds_toArray, List.set_cons_zero, List.set_cons_succ])))
          (first | (refine x_load _ (by rfl) rfl rfl (by assumption) (by kernel_rfl) ?_; simp only [Act.put, List.setIfInBounds_toArray, List.set_cons_zero, List.set_cons_succ]) | (refine x_val (v := ?_) (by rfl) (fun w' hx => ?_) ?_; rotate_left; (focus (go_simp; (try with_reducible rfl))); (try simp only [Act.put, List.setIfInBounds_toArray, List.set_cons_zero, List.set_cons_succ])))
          (first | (refine x_load _ (by rfl) rfl rfl (by assumption) (by kernel_rfl) ?_; simp only [Act.put, List.setIfInBounds_toArray, List.set_cons_zero, List.set_cons_succ]) | (refine x_val (v := ?_) (by rfl) (fun w' hx => ?_) ?_; rotate_left; (focus (go_simp; (try with_reducible rfl))); (try simp only [Act.put, List.setIfInBounds_toArray, List.set_cons_zero, List.set_cons_succ])))
          (first | (refine x_load _ (by rfl) rfl rfl (by assumption) (by kernel_rfl) ?_; simp only [Act.put, List.setIfInBounds_toArray, List.set_cons_zero, List.set_cons_succ]) | (refine x_val (v := ?_) (by rfl) (fun w' hx => ?_) ?_; rotate_left; (focus (go_simp; (try with_reducible rfl))); (try simp only [Act.put, List.setIfInBounds_toArray, List.set_cons_zero, List.set_cons_succ])))
          (first | (refine x_load _ (by rfl) rfl rfl (by assumption) (by kernel_rfl) ?_; simp only [Act.put, List.setIfInBounds_toArray, List.set_cons_zero, List.set_cons_succ]) | (refine x_val (v := ?_) (by rfl) (fun w' hx => ?_) ?_; rotate_left; (focus (go_simp; (try with_reducible rfl))); (try simp only [Act.put, List.setIfInBounds_toArray, List.set_cons_zero, List.set_cons_succ])))
          (first | (refine x_load _ (by rfl) rfl rfl (by assumption) (by kernel_rfl) ?_; simp only [Act.put, List.setIfInBounds_toArray, List.set_cons_zero, List.set_cons_succ]) | (refine x_val (v := ?_) (by rfl) (fun w' hx => ?_) ?_; rotate_left; (focus (go_simp; (try with_reducible rfl))); (try simp only [Act.put, List.setIfInBounds_toArray, List.set_cons_zero, List.set_cons_succ])))
          (first | (refine x_load _ (by rfl) rfl rfl (by assumption) (by kernel_rfl) ?_; simp only [Act.put, List.setIfInBounds_toArray, List.set_cons_zero, List.set_cons_succ]) | (refine x_val (v := ?_) (by rfl) (fun w' hx => ?_) ?_; rotate_left; (focus (go_simp; (try with_reducible rfl))); (try simp only [Act.put, List.setIfInBounds_toArray, List.set_cons_zero, List.set_cons_succ])))
          (first | (refine x_load _ (by rfl) rfl rfl (by assumption) (by kernel_rfl) ?_; simp only [Act.put, List.setIfInBounds_toArray, List.set_cons_zero, List.set_cons_succ]) | (refine x_val (v := ?_) (by rfl) (fun w' hx => ?_) ?_; rotate_left; (focus (go_simp; (try with_reducible rfl))); (try simp only [Act.put, List.setIfInBounds_toArray, List.set_cons_zero, List.set_cons_succ])))
          (first | (refine x_load _ (by rfl) rfl rfl (by assumption) (by kernel_rfl) ?_; simp only [Act.put, List.setIfInBounds_toArray, List.set_cons_zero, List.set_cons_succ]) | (refine x_val (v := ?_) (by rfl) (fun w' hx => ?_) ?_; rotate_left; (focus (go_simp; (try with_reducible rfl))); (try simp only [Act.put, List.setIfInBounds_toArray, List.set_cons_zero, List.set_cons_succ])))
          refine x_nil (hQ.out _ ?_); clear hQ QQ
          intro w5 hb5
          have O5 := Lib.hid (own_below hown.out hb5 fun g hg => (own_lt4 hown.out g hg).2)
          have B5 := Lib.hid (hbw.trans (hb5.mono hbw.size))
          clear hb5 hown hbw k1 k2
          obtain ⟨N3, hN3⟩ : ∃ N3, N3 = NA - 1 := ⟨_, rfl⟩
          obtain ⟨C3, hC3⟩ : ∃ C3, C3 = CA - 1 := ⟨_, rfl⟩
          have HU := Lib.hid (show Try.prog.underlying 85 = some (.slice (Try.prog.elem 85)) by unfold Program.elem; rw [Try.underlying85])
          have hs3 : ∀ w, (Instr.slice 85 (.slice (some ⟨b1, o1, none⟩) NA CA) (some (.int .i64 1)) none none).run Try.prog w = .ok (.slice (cutA (some ⟨b1, o1, none⟩) CA 1 4) N3 C3) w := fun w => by
            have := run_cut_l recel (some ⟨b1, o1, none⟩) NA CA 1 (by omega) w
            rw [← hN3, ← hC3] at this
            exact this
          have hs4 : ∀ w, (Instr.sliceAt 85 (.slice (some ⟨b1, o1, none⟩) NA CA) (some (.int .i64 1)) none none).run Try.prog w = .ok (.slice (cutA (some ⟨b1, o1, none⟩) CA 1 4) N3 C3) w := fun w => (run_sliceAt_slice w _ _ _ _ _ HU.out).trans (hs3 w)
          have hrZ := hra.out.drop (k := 1) (cap := CA) (by omega) (by omega)
          rw [rbcs_drop1, ← hN3] at hrZ
          have hrZ2 : Rd w w.heap.size 4 (cutA (some ⟨b1, o1, none⟩) CA 1 4) N3 (rbcs r1) := hrZ
          have RZ := Lib.hid hrZ2
          generalize cutA (some ⟨b1, o1, none⟩) CA 1 4 = Z at *
          have HMG := Lib.hid (show (lo ++ [(t1, s1, p1, q1)]) ++ mgR r1 ((t2, s2, p2, q2) :: r2) = mgR l1 l2 from by
            rw [← hmg.out, mgR_a (p := (t1, s1, p1, q1)) (q := (t2, s2, p2, q2)) (by have := HLT.out; dsimp only; omega)]
            simp)
          have hNC3 : N3 ≤ C3 := by omega
          have hlt3 : N3 < NA := by omega
          clear hrZ hrZ2 hN3 hC3 HU hmg
          obtain ⟨qA, qn, qc, ql⟩ := q1
          dsimp only at *
          go_wp2_with fail
          refine wp_ord [(0, .pure), (1, .pure), (2, .pure), (3, .read), (6, .pure), (7, .pure), (4, .sole), (5, .sole), (8, .pure), (9, .pure)] [5] (by kernel_rfl) (by kernel_rfl) (fun QQ hQ wd hwd => ?_); simp only [List.map_cons, List.map_nil, List.getD_cons_zero, List.getD_cons_succ]
          have hD : Below w5.heap.size w5 wd := by rw [hwd.out]; exact (Below.refl _ _).drew
          have OD := Lib.hid (own_below O5.out hD fun g hg => (own_lt4 O5.out g hg).2)
          have BD := Lib.hid (B5.out.trans (hD.mono B5.out.size))
          have CD := Lib.hid (show ∀ j x, [Value.int .i64 t1, .int .i64 s1, .int .i64 p1, .slice qA qn qc][j]? = some x → wd.cell? ⟨b1, o1 + j, none⟩ = some x from fun j x hx => (BD.out.cell (p := ⟨b1, o1 + j, none⟩) hbb1).trans (CE1.out j x hx))
          clear hD hwd O5 B5
          (refine o_pure (v := ?_) (by rfl) (fun w' => ?_) ?_; rotate_left; (focus (go_simp; (try with_reducible rfl))); (try simp only [Act.put, List.setIfInBounds_toArray, List.set_cons_zero, List.set_cons_succ]))
          (refine o_pure (v := ?_) (by rfl) (fun w' => ?_) ?_; rotate_left; (focus (go_simp; (try with_reducible rfl))); (try simp only [Act.put, List.setIfInBounds_toArray, List.set_cons_zero, List.set_cons_succ]))
          (refine o_pure (v := ?_) (by rfl) (fun w' => ?_) ?_; rotate_left; (focus (go_simp; (try with_reducible rfl))); (try simp only [Act.put, List.setIfInBounds_toArray, List.set_cons_zero, List.set_cons_succ]))
          (refine o_loads _ [.int .i64 t1, .int .i64 s1, .int .i64 p1, .slice qA qn qc] (by rfl) rfl rfl (CD.out) (Nat.succ_pos _) (by kernel_rfl) (by kernel_rfl) ?_; simp only [Act.put, List.setIfInBounds_toArray, List.set_cons_zero, List.set_cons_succ])
          (refine o_pure (v := ?_) (by rfl) (fun w' => ?_) ?_; rotate_left; (focus (go_simp; (try with_reducible rfl))); (try simp only [Act.put, List.setIfInBounds_toArray, List.set_cons_zero, List.set_cons_succ]))
          (refine o_pure (v := ?_) (by rfl) (fun w' => ?_) ?_; rotate_left; (focus (go_simp; (try with_reducible rfl))); (try simp only [Act.put, List.setIfInBounds_toArray, List.set_cons_zero, List.set_cons_succ]))
          refine o_sole (fun K hK => ?_)
          go_wp2_with fail
          refine hK _ _ (fun _ => Ext.of ((Below.refl _ _).alloc (Nat.le_refl _) _)) ?_; clear hK K
          refine o_sole (fun K hK => ?_)
          refine appZ recel #[.int .i64 t1, .int .i64 s1, .int .i64 p1, .slice qA qn qc] rfl (rbcs_one [(t1, s1, p1, (⟨qA, qn, qc, ql⟩ : Body))]) rfl (.tmp 37) (.tmp 41) rfl rfl OD.out rfl rfl (room_ge (by omega)) BD.out.size ?_
          intro v3 w3 ho3 _ hb3
          have O3 := Lib.hid (show w3.ownsRow w.heap.size 93 4 v3 (n7 + 1) (rbcs (lo ++ [(t1, s1, p1, (⟨qA, qn, qc, ql⟩ : Body))])) from by rw [rbcs_append]; exact ho3)
          have HN8 := Lib.hid (show (lo ++ [(t1, s1, p1, (⟨qA, qn, qc, ql⟩ : Body))]).length = n7 + 1 from by rw [List.length_append, HN7.out]; rfl)
          have B3 := Lib.hid (BD.out.trans hb3)
          obtain ⟨A8, c8, rfl, _, _, _⟩ := own_form O3.out
          refine wpList_nil ?_
          refine hK _ _ (fun h => by cases h) ?_; clear hK K
          clear ho3 hb3 OD BD CD
          (refine o_pure (v := ?_) (by rfl) (fun w' => ?_) ?_; rotate_left; (focus (go_simp; (try with_reducible rfl))); (try simp only [Act.put, List.setIfInBounds_toArray, List.set_cons_zero, List.set_cons_succ]))
          (refine o_pure (v := ?_) (by rfl) (fun w' => ?_) ?_; rotate_left; (focus (go_simp; (try with_reducible rfl))); (try simp only [Act.put, List.setIfInBounds_toArray, List.set_cons_zero, List.set_cons_succ]))
          refine o_nil (hQ.out _ _ ?_); clear hQ QQ
          go_wp2_with fail
          go_roundw
          case rel => exact ⟨N3, C3, NB, CB, n7 + 1, _, _, r1, _, _, rfl, rfl, hNC3, hcb, by omega, hnb, RZ, hrb, HN8, O3, HMG, B3.out⟩
          case measure => simp [lenOf]; omega
      · have hb0 : NB = 0 := by omega
        subst hb0
        have hge : ¬ (0 : Int) < ((0 : Nat) : Int) := by omega
        have HALL := Lib.hid (show lo ++ la ++ lb = mgR l1 l2 from by rw [← hmg.out]; rw [List.eq_nil_of_length_eq_zero hlb, mgR_nil2, List.append_nil])
        have HBOD := Lib.hid (show ∀ p ∈ mgR l1 l2, Rd w w.heap.size 1 p.2.2.2.A p.2.2.2.n (ns .u8 p.2.2.2.l) ∧ p.2.2.2.n ≤ p.2.2.2.c ∧ p.2.2.2.c ≤ maxLen from fun p hp => by
          rcases mgR_mem l1 l2 p hp with h | h
          · exact H1.out.bod p h
          · exact H2.out.bod p h)
        have HBDS := Lib.hid (show ∀ p ∈ rsay (mgR l1 l2), i64ok p.1 ∧ i64ok p.2.1 ∧ i64ok p.2.2.1 ∧ ∀ x ∈ p.2.2.2, x < 256 from fun p hp => by
          obtain ⟨q, hq, rfl⟩ := List.mem_map.1 hp
          rcases mgR_mem l1 l2 q hq with h | h
          · exact H1.out.bds q h
          · exact H2.out.bds q h)
        have hmax : n7 + NA ≤ 100000 := by have := HLO.out; omega
        have HMX := Lib.hid hmax
        obtain ⟨A7, c7, rfl, _, _, _⟩ := own_form hown.out
        have HBW := Lib.hid hbw
        clear hmg hla hlb hmax
        go_wp2_with (at_builtin; go_must (refine app recel rfl _ _ rfl rfl hown.out rfl (hra.out.below HBW.out) (rbcs_one _) (room_ge (by have := HMX.out; omega)) HBW.out.size ?_))
        intro v3 w3 ho3 _ hb3
        have O3 := Lib.hid ho3
        have B3 := Lib.hid (HBW.out.trans hb3)
        clear ho3 hb3 hown hbw HBW
        obtain ⟨A8, c8, rfl, _, _, _⟩ := own_form O3.out
        go_wp2_with (at_builtin; go_must (refine app recel rfl _ _ rfl rfl O3.out rfl (hrb.out.below B3.out) (rbcs_one _) (room_ge (by have := HMX.out; omega)) B3.out.size ?_))
        intro v4 w4 ho4 _ hb4
        have O4 := Lib.hid (show w4.ownsRow w.heap.size 93 4 v4 (n7 + NA) (rbcs (mgR l1 l2)) from by rw [← HALL.out, rbcs_append, rbcs_append]; first | exact ho4 | (rw [List.append_assoc]; exact ho4))
        have B4 := Lib.hid (B3.out.trans hb4)
        clear ho4 hb4 O3 B3
        obtain ⟨A9, c9, rfl, _, _, _⟩ := own_form O4.out
        go_wp2_with fail
        refine (copied_any A9 (n7 + NA) c9 w.heap.size (mgR l1 l2) w4 O4.out B4.out.size (fun p hp => ⟨(HBOD.out p hp).1.below B4.out, (HBOD.out p hp).2⟩) HBDS.out HMX.out HS.out).mono ?_
        rintro e w5 ⟨⟨rfl, lo5, hrs, hsay⟩, hb5⟩
        have B5 := Lib.hid (B4.out.trans hb5)
        have HR5 := Lib.hid hrs
        have HY5 := Lib.hid hsay
        clear hb5 hrs hsay O4 B4
        go_wp2_with fail
        go_ret
        exact ⟨⟨A9, _, c9, lo5, rfl, HR5.out, HY5.out⟩, B5.out⟩
    · have ha0 : NA = 0 := by omega
      subst ha0
      have hge : ¬ (0 : Int) < ((0 : Nat) : Int) := by omega
      have HALL := Lib.hid (show lo ++ la ++ lb = mgR l1 l2 from by rw [← hmg.out]; rw [List.eq_nil_of_length_eq_zero hla, mgR_nil, List.append_nil])
      have HBOD := Lib.hid (show ∀ p ∈ mgR l1 l2, Rd w w.heap.size 1 p.2.2.2.A p.2.2.2.n (ns .u8 p.2.2.2.l) ∧ p.2.2.2.n ≤ p.2.2.2.c ∧ p.2.2.2.c ≤ maxLen from fun p hp => by
        rcases mgR_mem l1 l2 p hp with h | h
        · exact H1.out.bod p h
        · exact H2.out.bod p h)
      have HBDS := Lib.hid (show ∀ p ∈ rsay (mgR l1 l2), i64ok p.1 ∧ i64ok p.2.1 ∧ i64ok p.2.2.1 ∧ ∀ x ∈ p.2.2.2, x < 256 from fun p hp => by
        obtain ⟨q, hq, rfl⟩ := List.mem_map.1 hp
        rcases mgR_mem l1 l2 q hq with h | h
        · exact H1.out.bds q h
        · exact H2.out.bds q h)
      have hmax : n7 + NB ≤ 100000 := by have := HLO.out; omega
      have HMX := Lib.hid hmax
      obtain ⟨A7, c7, rfl, _, _, _⟩ := own_form hown.out
      have HBW := Lib.hid hbw
      clear hmg hla hlb hmax
      go_wp2_with (at_builtin; go_must (refine app recel rfl _ _ rfl rfl hown.out rfl (hra.out.below HBW.out) (rbcs_one _) (room_ge (by have := HMX.out; omega)) HBW.out.size ?_))
      intro v3 w3 ho3 _ hb3
      have O3 := Lib.hid ho3
      have B3 := Lib.hid (HBW.out.trans hb3)
      clear ho3 hb3 hown hbw HBW
      obtain ⟨A8, c8, rfl, _, _, _⟩ := own_form O3.out
      go_wp2_with (at_builtin; go_must (refine app recel rfl _ _ rfl rfl O3.out rfl (hrb.out.below B3.out) (rbcs_one _) (room_ge (by have := HMX.out; omega)) B3.out.size ?_))
      intro v4 w4 ho4 _ hb4
      have O4 := Lib.hid (show w4.ownsRow w.heap.size 93 4 v4 (n7 + NB) (rbcs (mgR l1 l2)) from by rw [← HALL.out, rbcs_append, rbcs_append]; first | exact ho4 | (rw [List.append_assoc]; exact ho4))
      have B4 := Lib.hid (B3.out.trans hb4)
      clear ho4 hb4 O3 B3
      obtain ⟨A9, c9, rfl, _, _, _⟩ := own_form O4.out
      go_wp2_with fail
      refine (copied_any A9 (n7 + NB) c9 w.heap.size (mgR l1 l2) w4 O4.out B4.out.size (fun p hp => ⟨(HBOD.out p hp).1.below B4.out, (HBOD.out p hp).2⟩) HBDS.out HMX.out HS.out).mono ?_
      rintro e w5 ⟨⟨rfl, lo5, hrs, hsay⟩, hb5⟩
      have B5 := Lib.hid (B4.out.trans hb5)
      have HR5 := Lib.hid hrs
      have HY5 := Lib.hid hsay
      clear hb5 hrs hsay O4 B4
      go_wp2_with fail
      go_ret
      exact ⟨⟨A9, _, c9, lo5, rfl, HR5.out, HY5.out⟩, B5.out⟩
end Go.Proofs.Ytcgcglngjfijnaa
