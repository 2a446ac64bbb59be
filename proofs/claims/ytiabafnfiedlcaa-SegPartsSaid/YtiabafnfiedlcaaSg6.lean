/- The options that some bytes are. -/
import Derived.Test.YtiabafnfiedlcaaSg1
import Derived.Test.YtiabafnfiedlcaaSz
import Derived.Test.YtiabafnfiedlcaaOrd
namespace Go.Proofs.Ytiabafnfiedlcaa
open Go.RowKit
set_option linter.unusedVariables false
theorem poel : El Try.prog 53 74 (.agg #[.int .u8 0, .slice none 0 0]) 2 32 := ⟨Try.underlying53, by kernel_rfl, rfl, by omega, by omega⟩
section
variable {P : Program} {ops : Array Oper} {rest : List Oper} {o : Oper} {a : Act} {Q : Exit → Act → World → Prop} {t e : TypeId} {z : Value} {bytes : Nat}
theorem app1o {w0 : World} (el : El P t e z 2 bytes) (p : Ob) (hgd : o.guard = none) (s d : Operand) (ho : o.op = .call { callee := .builtin .append, args := #[s, d], argTypes := #[t, t] })
    {base : Nat} {v : Value} {l : List Ob} (hs : a.eval s = v) (hown : w0.ownsRow base e 2 v l.length (ocs l)) {gz : Nat} (hx : a.eval d = .slice (some ⟨gz, 0, none⟩) 1 1) (hgz : gz = w0.heap.size) (hroom : (l.length + 1) * bytes ≤ room) (hbase : base ≤ w0.heap.size)
    (h : ∀ v' w', w'.ownsRow base e 2 v' (l ++ [p]).length (ocs (l ++ [p])) → w0.grownBy w' v.ownBlock → Below base w0 w' → wpList P ops Q rest (a.put o.dst v') w') : wpList P ops Q (o :: rest) a (w0.alloc (.cells #[.int .u8 (p.1 : Int), .slice p.2.A p.2.n p.2.c] e)) := by
  subst hgz
  have hr : Rd (w0.alloc (.cells #[.int .u8 (p.1 : Int), .slice p.2.A p.2.n p.2.c] e)) (w0.heap.size + 1) 2 (some ⟨w0.heap.size, 0, none⟩) 1 (ocs [p]) := Rd.made w0 e #[.int .u8 (p.1 : Int), .slice p.2.A p.2.n p.2.c] rfl
  refine app el hgd s d ho hs (hown.alloc _) hx hr (ocs_one _) hroom (by simp; omega) fun v' w' h1 h2 h3 => ?_
  refine h v' w' ?_ ?_ (((Below.refl _ _).alloc hbase _).trans h3)
  · rw [ocs_append, List.length_append]
    exact h1
  · have hA := World.grownBy_alloc w0 (.cells #[.int .u8 (p.1 : Int), .slice p.2.A p.2.n p.2.c] e) v.ownBlock
    exact grownBy_trans hA h2
end
/-- What can't be options. -/
def badO (r : List Nat) : Prop := 0 < r.length ∧ (r.length < 2 ∨ r[0]? = some 0 ∨ ∃ y, r[1]? = some y ∧ r.length < 2 + y)
theorem badO_no {os : List Opn} {l : List Nat} {k : Nat} (h : oBytes os = l.take k) (hb : badO (l.drop k)) : ¬ ∃ o, isOpts l o := by
  rintro ⟨o, ho, hk⟩
  rw [← List.take_append_drop k l, ← h] at ho
  obtain ⟨m, rfl, hm⟩ := oBytes_pre ho
  rw [← hm] at hb
  obtain ⟨h0, hb⟩ := hb
  cases m with
  | nil => simp [oBytes] at h0
  | cons p m =>
    rw [oBytes_cons] at hb
    rcases hb with hb | hb | ⟨y, hy, hb⟩
    · simp at hb
      omega
    · simp at hb
      exact hk p (by simp) hb
    · simp at hy
      subst hy
      simp at hb
      omega
theorem okO_step {os : List Opn} {l : List Nat} {k x0 x1 : Nat} (h : oBytes os = l.take k) (h0 : (l.drop k)[0]? = some x0) (h1 : (l.drop k)[1]? = some x1) (hl : 2 + x1 ≤ (l.drop k).length) :
    oBytes (os ++ [(x0, ((l.drop k).take (2 + x1)).drop 2)]) = l.take (k + (2 + x1)) := by
  have e : l.take (k + (2 + x1)) = l.take k ++ (l.drop k).take (2 + x1) := List.take_add ..
  rw [oBytes_append, h, e]
  clear e h
  congr 1
  generalize l.drop k = r at *
  have hlen : ((r.take (2 + x1)).drop 2).length = x1 := by rw [List.length_drop, List.length_take]; omega
  match r, h0, h1 with
  | a :: b :: r, h0, h1 =>
    simp at h0 h1
    subst h0 h1
    rw [oBytes_cons]
    dsimp only
    rw [hlen]
    rw [show 2 + b = b + 1 + 1 by omega]
    simp [oBytes]
/-- Of the same block. -/
def SameB (A Y : Option Addr) : Prop := ∀ b o, Y = some ⟨b, o, none⟩ → ∃ o', A = some ⟨b, o', none⟩
theorem SameB.refl (A : Option Addr) : SameB A A := fun b o h => ⟨o, h⟩
theorem SameB.trans {A B C : Option Addr} (h : SameB A B) (k : SameB B C) : SameB A C := fun b o e => by
  obtain ⟨o', h1⟩ := k b o e
  exact h b o' h1
theorem sameB_cut (b off c h sz : Nat) : SameB (some ⟨b, off, none⟩) (cutA (some ⟨b, off, none⟩) c h sz) := by
  intro b' o' e
  unfold cutA at e
  split at e
  · injection e with e; injection e with e1 e2; subst e1; exact ⟨off, rfl⟩
  · rw [Option.map_some, addr_add] at e
    injection e with e; injection e with e1 e2; subst e1; exact ⟨off, rfl⟩
/-- What cut answers. -/
def CutPost (A : Option Addr) (l : List Nat) (B : Nat) (w w' : World) (e : Ending) : Prop :=
  (∃ v os, e = .returned (.tuple #[v, .bool true]) ∧ w'.ownsRow w.heap.size 74 2 v os.length (ocs os) ∧ (∀ p ∈ os, Rd w B 1 p.2.A p.2.n (ns .u8 p.2.l) ∧ p.2.n ≤ p.2.c ∧ p.2.c ≤ 2 ^ 63 - 1) ∧ (∀ p ∈ os, SameB A p.2.A) ∧ isOpts l (osay os)) ∨
  ((¬ ∃ o, isOpts l o) ∧ e = .returned (.tuple #[.slice none 0 0, .bool false]))
set_option maxRecDepth 20000 in
set_option maxHeartbeats 2000000 in
theorem scut_any (A : Option Addr) (n c B : Nat) (l : List Nat) (w : World) (h : Rd w B 1 A n (ns .u8 l)) (hB : B ≤ w.heap.size) (hnc : n ≤ c) (hcm : c ≤ maxLen) (hb : ∀ x ∈ l, x < 256) (hn : n ≤ 10000) :
    Calls Try.prog 74 #[.slice A n c] w fun e w' => CutPost A l B w w' e ∧ Below w.heap.size w w' := by
  have HR := Lib.hid h
  have HL := Lib.hid h.natLen
  have HB := Lib.hid hb
  clear h hb
  unfold maxLen at *
  go_enter Try.func74, Try.ntmps74
  go_wp2_with fail
  go_loopw [0, 4] (fun bv ov wr => ∃ (k N C : Nat) (X : Option Addr) (os : List Ob), k + N = n ∧ N ≤ C ∧ C ≤ 2 ^ 63 - 1 ∧ bv = .slice X N C ∧ Hid (Rd w B 1 X N (ns .u8 (l.drop k))) ∧ Hid (oBytes (osay os) = l.take k) ∧ Hid (∀ p ∈ osay os, p.1 ≠ 0) ∧ Hid (wr.ownsRow w.heap.size 74 2 ov os.length (ocs os)) ∧ Hid (∀ p ∈ os, Rd w B 1 p.2.A p.2.n (ns .u8 p.2.l) ∧ p.2.n ≤ p.2.c ∧ p.2.c ≤ 2 ^ 63 - 1) ∧ os.length ≤ k ∧ Hid (SameB A X ∧ ∀ p ∈ os, SameB A p.2.A) ∧ Below w.heap.size w wr) (fun bv _ _ => lenOf bv)
  case atStart => exact ⟨0, n, c, A, [], by omega, hnc, hcm, rfl, by simpa using HR, Lib.hid (by simp [oBytes, osay]), Lib.hid (by simp [osay]), Lib.hid (World.ownsRow_nil _ _ _ _), Lib.hid (by simp), Nat.le_refl _, Lib.hid ⟨SameB.refl _, by simp⟩, Below.refl _ _⟩
  case round =>
    obtain ⟨k, N, C, X, os, hkn, hNC, hCm, rfl, hrd, hby, hkd, hown, hbod, hol, hsb, hbw⟩ := hrel
    obtain ⟨A7, c7, rfl, _, _, _⟩ := own_form hown.out
    have hbs := hbw.size
    have hroom : (os.length + 1) * 32 ≤ room := room_ge (by omega)
    have hlen : (l.drop k).length = N := hrd.out.natLen
    by_cases hN : 0 < N
    · have hN' : (0 : Int) < (N : Int) := by omega
      by_cases h2 : N < 2
      · have h2' : (N : Int) < 2 := by omega
        have HBAD := Lib.hid (badO_no hby.out (⟨by omega, .inl (by omega)⟩ : badO (l.drop k)))
        clear hlen
        go_wp2_with fail
        go_ret2
        exact ⟨.inr ⟨HBAD.out, rfl⟩, hbw⟩
      · have h2' : ¬ (N : Int) < 2 := by omega
        have h2d : decide ((N : Int) < 2) = false := decide_eq_false h2'
        have hN1 : 1 < N := by omega
        have hN1' : (1 : Int) < (N : Int) := by omega
        obtain ⟨b, off, x0, rfl, hbb, p0, hx0⟩ := hrd.out.nth hN
        obtain ⟨b', off', x1, eA, hbb', p1, hx1⟩ := hrd.out.nth hN1
        injection eA with eA
        injection eA with eb eo
        subst eb eo
        have q0 := (hbw.cell (p := ⟨b, off + 0, none⟩) (by show b < _; omega)).trans p0
        have q1 := (hbw.cell (p := ⟨b, off + 1, none⟩) (by show b < _; omega)).trans p1
        rw [Nat.add_zero] at q0
        have hxl := HB.out x1 (List.mem_of_mem_drop (List.mem_of_getElem? hx1.out))
        clear p0 p1
        by_cases hz : x0 = 0
        · subst hz
          have HBAD := Lib.hid (badO_no hby.out (⟨by omega, .inr (.inl hx0.out)⟩ : badO (l.drop k)))
          clear hlen
          go_wp2_with fail
          go_ret2
          exact ⟨.inr ⟨HBAD.out, rfl⟩, hbw⟩
        · have hz1 : ¬ (x0 : Int) = 0 := by omega
          have hz2 : ((x0 : Int) == 0) = false := beq_eq_false_iff_ne.2 hz1
          obtain ⟨e, he⟩ : ∃ e, e = 2 + x1 := ⟨_, rfl⟩
          have ee : (2 : Int) + (x1 : Int) = (e : Int) := by omega
          have wx : IntKind.i64.wrap (x1 : Int) = (x1 : Int) := by rw [IntKind.wrap_i64]; omega
          have we : IntKind.i64.wrap (e : Int) = (e : Int) := by rw [IntKind.wrap_i64]; omega
          by_cases heN : N < e
          · have heN' : (N : Int) < (e : Int) := by omega
            have HBAD := Lib.hid (badO_no hby.out (⟨by omega, .inr (.inr ⟨x1, hx1.out, by omega⟩)⟩ : badO (l.drop k)))
            clear hlen he
            go_wp2_with fail
            go_ret2
            exact ⟨.inr ⟨HBAD.out, rfl⟩, hbw⟩
          · have heN' : ¬ (N : Int) < (e : Int) := by omega
            have hst := okO_step hby.out hx0.out hx1.out (by omega)
            rw [← he] at hst
            have hu : Try.prog.underlying 54 = some (.slice (Try.prog.elem 54)) := by unfold Program.elem; rw [Try.underlying54]
            have hc1 : ∀ w, (Instr.slice 54 (.slice (some ⟨b, off, none⟩) N C) (some (.int .i64 2)) (some (.int .i64 (e : Int))) (some (.int .i64 (e : Int)))).run Try.prog w = _ := fun w => run_cut_lhm pel8 (some ⟨b, off, none⟩) N C 2 e e (by omega) (Nat.le_refl _) (by omega) w
            have hc2 : ∀ w, (Instr.sliceAt 54 (.slice (some ⟨b, off, none⟩) N C) (some (.int .i64 2)) (some (.int .i64 (e : Int))) (some (.int .i64 (e : Int)))).run Try.prog w = _ := fun w => (run_sliceAt_slice w _ _ _ _ _ hu).trans (hc1 w)
            have hc3 := run_cut_l pel8 (some ⟨b, off, none⟩) N C e (by omega)
            have hc4 : ∀ w, (Instr.sliceAt 54 (.slice (some ⟨b, off, none⟩) N C) (some (.int .i64 (e : Int))) none none).run Try.prog w = _ := fun w => (run_sliceAt_slice w _ _ _ _ _ hu).trans (hc3 w)
            have hrB := (hrd.out.takeN (show e ≤ N by omega)).dropN (show 2 ≤ e by omega) (Nat.le_refl e)
            have hrN := hrd.out.dropN (show e ≤ N by omega) hNC
            rw [List.drop_drop] at hrN
            have eY : cutA (some ⟨b, off, none⟩) e 2 1 = (if e = 2 then some ⟨b, off, none⟩ else (some (⟨b, off, none⟩ : Addr)).map (·.add 2)) := rfl
            have eZ : cutA (some ⟨b, off, none⟩) C e 1 = (if C = e then some ⟨b, off, none⟩ else (some (⟨b, off, none⟩ : Addr)).map (·.add e)) := by unfold cutA; rw [Nat.mul_one]
            rw [← eY] at hrB
            rw [← eZ] at hrN
            clear eY eZ hu
            have sbY := sameB_cut b off e 2 1
            have sbZ := sameB_cut b off C e 1
            generalize cutA (some ⟨b, off, none⟩) e 2 1 = Y at *
            generalize cutA (some ⟨b, off, none⟩) C e 1 = Z at *
            have hq : e - 2 = x1 := by omega
            rw [hq] at hrB hc1 hc2
            obtain ⟨bd, hbd⟩ : ∃ bd, bd = ((l.drop k).take e).drop 2 := ⟨_, rfl⟩
            rw [← hbd] at hst hrB
            obtain ⟨N2, hN2⟩ : ∃ N2, N2 = N - e := ⟨_, rfl⟩
            obtain ⟨C2, hC2⟩ : ∃ C2, C2 = C - e := ⟨_, rfl⟩
            rw [← hN2] at hrN hc3 hc4
            rw [← hC2] at hc3 hc4
            have f1 : k + e + N2 = n := by omega
            have f2 : N2 ≤ C2 := by omega
            have f3 : C2 ≤ 2 ^ 63 - 1 := by omega
            have f4 : N2 < N := by omega
            have f5 : os.length + 1 ≤ k + e := by omega
            have f6 : x1 ≤ 2 ^ 63 - 1 := by omega
            have HF := Lib.hid (And.intro f1 (And.intro f2 (And.intro f3 (And.intro f4 (And.intro f5 f6)))))
            have HST := Lib.hid (show oBytes (osay (os ++ [(x0, ⟨Y, x1, x1, bd⟩)])) = l.take (k + e) from by unfold osay at hst ⊢; rw [List.map_append]; exact hst)
            have HKD := Lib.hid (show ∀ p ∈ osay (os ++ [(x0, (⟨Y, x1, x1, bd⟩ : Body))]), p.1 ≠ 0 from by
              intro p hp
              unfold osay at hp
              rw [List.map_append] at hp
              rcases List.mem_append.1 hp with hp | hp
              · exact hkd.out p hp
              · simp at hp; subst hp; exact hz)
            have HBOD := Lib.hid (show ∀ p ∈ os ++ [(x0, (⟨Y, x1, x1, bd⟩ : Body))], Rd w B 1 p.2.A p.2.n (ns .u8 p.2.l) ∧ p.2.n ≤ p.2.c ∧ p.2.c ≤ 2 ^ 63 - 1 from by
              intro p hp
              rcases List.mem_append.1 hp with hp | hp
              · exact hbod.out p hp
              · simp only [List.mem_singleton] at hp; subst hp; exact ⟨hrB, Nat.le_refl _, f6⟩)
            have HRN := Lib.hid hrN
            have HSB := Lib.hid (show SameB A Z ∧ ∀ p ∈ os ++ [(x0, (⟨Y, x1, x1, bd⟩ : Body))], SameB A p.2.A from ⟨hsb.out.1.trans sbZ, by
              intro p hp
              rcases List.mem_append.1 hp with hp | hp
              · exact hsb.out.2 p hp
              · simp only [List.mem_singleton] at hp; subst hp; exact hsb.out.1.trans sbY⟩)
            clear sbY sbZ
            clear hst hrB hrN hq hbd hN2 hC2 f1 f2 f3 f4 f5 f6 he hlen hkd hbod hby hx0 hx1
            go_wp2_with fail
            refine wp_ord [(0, .pure), (1, .pure), (2, .pure), (3, .read), (4, .pure), (5, .pure), (6, .pure), (7, .pure), (8, .pure), (9, .sole), (10, .sole), (11, .pure)] [10] (by kernel_rfl) (by kernel_rfl) (fun QQ hQ wd hwd => ?_); simp only [List.map_cons, List.map_nil, List.getD_cons_zero, List.getD_cons_succ]
            have y0 : wd.cell? ⟨b, off, none⟩ = some (.int .u8 (x0 : Int)) := by rw [hwd.out]; exact q0
            have OD := Lib.hid (show wd.ownsRow w.heap.size 74 2 (.slice A7 os.length c7) os.length (ocs os) by rw [hwd.out]; exact hown.out)
            have BD := Lib.hid (show Below w.heap.size w wd by rw [hwd.out]; exact hbw.drew)
            have hsd : w.heap.size ≤ wd.heap.size := by rw [hwd.out]; exact hbs
            clear hwd q0 q1 hown hbw hbs
            (refine o_pure (v := ?_) (by rfl) (fun w' => ?_) ?_; rotate_left; (focus (go_simp; (try with_reducible rfl))); (try simp only [Act.put, List.setIfInBounds_toArray, List.set_cons_zero, List.set_cons_succ]))
            (refine o_pure (v := ?_) (by rfl) (fun w' => ?_) ?_; rotate_left; (focus (go_simp; (try with_reducible rfl))); (try simp only [Act.put, List.setIfInBounds_toArray, List.set_cons_zero, List.set_cons_succ]))
            (refine o_pure (v := ?_) (by rfl) (fun w' => ?_) ?_; rotate_left; (focus (go_simp; (try with_reducible rfl))); (try simp only [Act.put, List.setIfInBounds_toArray, List.set_cons_zero, List.set_cons_succ]))
            (refine o_load _ (by rfl) rfl rfl (by assumption) (by kernel_rfl) ?_; simp only [Act.put, List.setIfInBounds_toArray, List.set_cons_zero, List.set_cons_succ])
            (refine o_pure (v := ?_) (by rfl) (fun w' => ?_) ?_; rotate_left; (focus (go_simp; (try with_reducible rfl))); (try simp only [Act.put, List.setIfInBounds_toArray, List.set_cons_zero, List.set_cons_succ]))
            (refine o_pure (v := ?_) (by rfl) (fun w' => ?_) ?_; rotate_left; (focus (go_simp; (try with_reducible rfl))); (try simp only [Act.put, List.setIfInBounds_toArray, List.set_cons_zero, List.set_cons_succ]))
            (refine o_pure (v := ?_) (by rfl) (fun w' => ?_) ?_; rotate_left; (focus (go_simp; (try with_reducible rfl))); (try simp only [Act.put, List.setIfInBounds_toArray, List.set_cons_zero, List.set_cons_succ]))
            (refine o_pure (v := ?_) (by rfl) (fun w' => ?_) ?_; rotate_left; (focus (go_simp; (try with_reducible rfl))); (try simp only [Act.put, List.setIfInBounds_toArray, List.set_cons_zero, List.set_cons_succ]))
            (refine o_pure (v := ?_) (by rfl) (fun w' => ?_) ?_; rotate_left; (focus (go_simp; (try with_reducible rfl))); (try simp only [Act.put, List.setIfInBounds_toArray, List.set_cons_zero, List.set_cons_succ]))
            refine o_sole (fun K hK => ?_)
            go_wp2_with fail
            refine hK _ _ (fun _ => Ext.of ((Below.refl _ _).alloc (Nat.le_refl _) _)) ?_; clear hK K
            refine o_sole (fun K hK => ?_)
            refine app1o poel (x0, ⟨Y, x1, x1, bd⟩) rfl (.tmp 27) (.tmp 36) rfl rfl OD.out rfl rfl hroom hsd ?_
            intro v2 w2 ho2 _ hb2
            have HO2 := Lib.hid ho2
            have HB2 := Lib.hid (BD.out.trans hb2)
            clear ho2 hb2 OD BD
            refine wpList_nil ?_
            refine hK _ _ (fun h => by cases h) ?_; clear hK K
            (refine o_pure (v := ?_) (by rfl) (fun w' => ?_) ?_; rotate_left; (focus (go_simp; (try with_reducible rfl))); (try simp only [Act.put, List.setIfInBounds_toArray, List.set_cons_zero, List.set_cons_succ]))
            refine o_nil (hQ.out _ _ ?_); clear hQ QQ
            go_wp2_with fail
            go_roundw
            case rel => exact ⟨k + e, N2, C2, Z, os ++ [(x0, ⟨Y, x1, x1, bd⟩)], HF.out.1, HF.out.2.1, HF.out.2.2.1, rfl, HRN, HST, HKD, HO2, HBOD, by rw [List.length_append]; exact HF.out.2.2.2.2.1, HSB, HB2.out⟩
            case measure => exact HF.out.2.2.2.1
    · have hN' : ¬ (0 : Int) < (N : Int) := by omega
      have hN0 : N = 0 := by omega
      have hby2 := hby.out
      rw [List.take_of_length_le (by rw [HL.out]; omega)] at hby2
      have HBY := Lib.hid hby2
      clear hby2 hby hlen
      go_wp2_with fail
      go_ret2
      exact ⟨.inl ⟨_, os, rfl, hown.out, hbod.out, hsb.out.2, HBY.out, hkd.out⟩, hbw⟩
end Go.Proofs.Ytiabafnfiedlcaa
