/- Layer 34: the document's bytes of a capture. -/
import Derived.Test.YtiblmlmkpilgmaaCap7
import Derived.Test.YtiblmlmkpilgmaaCap8
import Derived.Test.YtiblmlmkpilgmaaPk6
import Derived.Lib.AppendStr
namespace Go.Proofs.Ytiblmlmkpilgmaa
open Go.RowKit
set_option linter.unusedVariables false
set_option linter.unusedSimpArgs false
theorem strCells_strN {bs : List Nat} (h : ∀ x ∈ bs, x < 256) : Lib.strCells (strN bs) = ns .u8 bs := by
  unfold Lib.strCells ns
  rw [show (strN bs).data.toList = bs.map UInt8.ofNat by simp [strN], List.map_map]
  refine List.map_congr_left fun x hx => ?_
  have := h x hx
  simp
  omega
section
variable {P : Program} {w : World} {ops : Array Oper} {rest : List Oper} {o : Oper} {a : Act} {Q : Exit → Act → World → Prop} {t u e : TypeId}
/-- append of a text's bytes. -/
theorem appstr (el : El P t e (.int .u8 0) 1 1) (hu : P.underlying u = some .string) (hgd : o.guard = none) (sl x : Operand) (ho : o.op = .call { callee := .builtin .append, args := #[sl, x], argTypes := #[t, u] })
    {base : Nat} {v : Value} {l bs : List Nat} (hs : a.eval sl = v) (hown : Nats w e .u8 base v l) (hx : a.eval x = .string (strN bs)) (hb : ∀ x ∈ bs, x < 256) (hroom : l.length + bs.length ≤ room) (hbase : base ≤ w.heap.size)
    (h : ∀ v' w', Nats w' e .u8 base v' (l ++ bs) → w.grownBy w' v.ownBlock → Below base w w' → wpList P ops Q rest (a.put o.dst v') w') : wpList P ops Q (o :: rest) a w := by
  obtain ⟨ht, hinf, hzs, hsz, hb1⟩ := el
  obtain ⟨i, hi, hz, hsize, hby⟩ := info_parts hinf
  have hbytes := room_le hroom
  have hss := strN_size bs
  refine Lib.wpList_append_own_string w hgd sl x t u ho base e i ht hu hi hz hsize hby v l.length (ns .u8 l) hs hown (strN bs) hx (by unfold maxLen; omega) (by omega) hbase fun v' w' h1 h2 _ => ?_
  rw [strCells_strN hb, hss] at h1
  refine h v' w' ?_ h2 ((Below.refl _ _).grown h2 hbase fun k hk => (hown.lt k hk).1)
  unfold Nats
  rw [ns_append, List.length_append]
  exact h1
end
set_option maxRecDepth 20000 in
set_option maxHeartbeats 4000000 in
theorem rcencode_any (A : Option Addr) (n c : Nat) (l : List Rcd) (w : World) (h : Rd w w.heap.size 4 A n (rcs l)) (hn : n ≤ 100000) (hml : ∀ p ∈ l, p.2.2.2.length ≤ maxLen) (hby : ∀ p ∈ l, ∀ x ∈ p.2.2.2, x < 256) (hs : rightR l → bsum l ≤ 20000) :
    Calls Try.prog 57 #[.slice A n c] w fun e w' => CEPost l w.heap.size w' e ∧ Below w.heap.size w w' := by
  have HRI := Lib.hid (rcright_any A n c l w h hn hml)
  have HO := Lib.hid h
  have HL := Lib.hid (rcLen h)
  have HS := Lib.hid hs
  have HBY := Lib.hid hby
  clear h hs hml hby
  go_enter Try.func57, Try.ntmps57
  go_wp2_with fail
  refine HRI.out.mono ?_
  rintro e w1 ⟨⟨bb, rfl, hiff⟩, hb1⟩
  have HIFF := Lib.hid hiff
  have B1 := Lib.hid hb1
  clear hiff hb1 HRI
  cases bb with
  | false =>
    go_wp2_with fail
    go_ret2
    exact ⟨⟨_, false, rfl, HIFF.out, Nats.nil _ _ _ _⟩, B1.out⟩
  | true =>
    have HRR := Lib.hid (HIFF.out.1 rfl)
    have hsz := HS.out HRR.out
    have hn24 : n ≤ 1024 := by have := HRR.out.1; rw [HL.out] at this; exact this
    have wn : IntKind.u64.wrap (n : Int) = (n : Int) := by rw [IntKind.wrap_u64]; omega
    go_wp2_with fail
    refine (rput_any 4 (.slice none 0 0) [] 1112690517 w.heap.size w1 (by omega) (Nats.nil _ _ _ _) B1.out.size (by simp) (by omega)).mono ?_
    rintro e w2 ⟨v2, rfl, hN2, hb2⟩
    have N2 := Lib.hid hN2
    have B2 := Lib.hid (B1.out.trans hb2)
    clear hb2 hN2 B1
    go_wp2_with fail
    refine (rput_any 2 v2 _ n w.heap.size w2 (by omega) N2.out B2.out.size (by simp [be_len]) (by omega)).mono ?_
    rintro e w3 ⟨v3, rfl, hN3, hb3⟩
    rw [List.nil_append] at hN3
    have N3 := Lib.hid hN3
    have B3 := Lib.hid (B2.out.trans hb3)
    clear hb3 hN3 B2 N2
    go_wp2_with fail
    obtain ⟨Y, hY⟩ : ∃ Y, Y = be 1112690517 4 ++ be n 2 := ⟨_, rfl⟩
    rw [← hY] at N3
    have hYl : Y.length = 6 := by rw [hY]; simp [be_len]
    have HY := Lib.hid (show Y = capH n from hY)
    clear hY
    go_loopw [4, 5, 6] (fun bv av iv wr => ∃ (k : Nat) (a : Int), k ≤ n ∧ iv = .int .i64 k ∧ av = .int .i64 a ∧ Hid (a = lastT 0 (l.take k)) ∧ Hid (Nats wr 5 .u8 w.heap.size bv (Y ++ recsB 0 (l.take k))) ∧ Below w.heap.size w wr) (fun _ _ iv _ => n - (intOf iv).toNat)
    case atStart => exact ⟨0, 0, Nat.zero_le _, rfl, rfl, Lib.hid (by simp [lastT]), by simpa [recsB] using N3, B3.out⟩
    case round =>
      obtain ⟨k, a, hk, rfl, rfl, hla, hN, hbw⟩ := hrel
      clear N3 B3
      have hszk : (recsB 0 (l.take k)).length ≤ 7 * k + 20000 := by
        rw [recsB_len, List.length_take]
        have := bsum_take l k
        omega
      by_cases hlt : k < n
      · have hlt' : (k : Int) < (n : Int) := by omega
        obtain ⟨b, off, t, s, p, ql, rfl, hbb, p0, p1, p2, p3, hp⟩ := HO.out.rec4 hlt
        have hp2 := hp.out
        have hok : recOk a (t, s, p, ql) := by rw [hla.out]; exact rightGo_at HRR.out.2 hp2
        have ha0 : 0 ≤ a := by rw [hla.out]; exact lastT_nn (rightGo_take HRR.out.2 k) (by omega)
        obtain ⟨o1, o2, o3, o4, o5, o6⟩ := hok
        dsimp only at o1 o2 o3 o4 o5 o6
        obtain ⟨m, hm⟩ : ∃ m, m = ql.length := ⟨_, rfl⟩
        have hsz2 : (strN ql).size = m := by rw [strN_size, hm]
        have hqn : m ≤ 2048 := by omega
        have HQB := Lib.hid (fun x hx => HBY.out _ (List.mem_of_getElem? hp2) x hx)
        dsimp only at HQB
        obtain ⟨d, hd⟩ : ∃ d : Nat, d = (t - a).toNat := ⟨_, rfl⟩
        have ed : t - a = (d : Int) := by omega
        have wd1 : IntKind.i64.wrap (t - a) = (d : Int) := by rw [ed, IntKind.wrap_i64]; omega
        have wd2 : IntKind.u64.wrap (d : Int) = (d : Int) := by rw [IntKind.wrap_u64]; omega
        have hd64 : d < 18446744073709551616 := by omega
        obtain ⟨z1, hz1⟩ : ∃ z1 : Int, z1 = 128 * s := ⟨_, rfl⟩
        have wz1 : IntKind.i64.wrap (128 * s) = z1 := by rw [← hz1, IntKind.wrap_i64]; rcases o4 with h | h <;> omega
        obtain ⟨hh, hhh⟩ : ∃ hh : Nat, hh = (128 * s + p).toNat := ⟨_, rfl⟩
        have eh : z1 + p = (hh : Int) := by rcases o4 with h | h <;> omega
        have wh1 : IntKind.i64.wrap (z1 + p) = (hh : Int) := by rw [eh, IntKind.wrap_i64]; rcases o4 with h | h <;> omega
        have hh8 : hh < 256 := by rcases o4 with h | h <;> omega
        have wh2 : IntKind.u8.wrap (hh : Int) = (hh : Int) := by rw [IntKind.wrap_u8]; omega
        have wq : IntKind.u64.wrap (m : Int) = (m : Int) := by rw [IntKind.wrap_u64]; omega
        have hm64 : m < 18446744073709551616 := by omega
        have HREC := Lib.hid (show Y ++ recsB 0 (l.take (k + 1)) = (Y ++ recsB 0 (l.take k)) ++ be d 4 ++ [hh] ++ be m 2 ++ ql from by
          rw [nth_take (Lib.hid hp2), recsB_snoc, ← hla.out]
          unfold recB
          dsimp only
          rw [← hd, ← hhh, hm]
          simp)
        have HLA := Lib.hid (show t = lastT 0 (l.take (k + 1)) from by rw [nth_take (Lib.hid hp2), lastT_snoc])
        have HM := Lib.hid hm
        have q0 := (hbw.cell (p := ⟨b, off + k * 4, none⟩) hbb).trans p0
        obtain ⟨A7, n7, c7, rfl, hnc7, hl7, hr7⟩ := hN.out.out
        clear hd ed hz1 eh hhh o1 o2 o3 o4 o5 o6 ha0 hla hp hp2 hm hr7 hl7
        go_wp2_with fail
        refine (rput_any 4 _ _ d w.heap.size wr (by omega) hN.out hbw.size (by simp [hYl]; omega) hd64).mono ?_
        rintro e v1 ⟨u1, rfl, hN1, hb⟩
        have N1 := Lib.hid hN1
        have X1 := Lib.hid (hbw.trans hb)
        clear hN1 hb hN hbw q0
        obtain ⟨A1, n1, c1, rfl, _, _, _⟩ := N1.out.out
        go_wp2_with fail
        refine wp_ord [(0, .pure), (1, .pure), (2, .pure), (3, .pure), (4, .pure), (5, .read), (6, .pure), (7, .pure), (8, .pure), (9, .pure), (10, .pure), (11, .read), (12, .pure), (13, .pure), (14, .sole), (15, .sole), (16, .pure)] [15] (by kernel_rfl) (by kernel_rfl) (fun QQ hQ wd hwd => ?_); simp only [List.map_cons, List.map_nil, List.getD_cons_zero, List.getD_cons_succ]
        have hD : Below v1.heap.size v1 wd := by rw [hwd.out]; exact (Below.refl _ _).drew
        have ND := Lib.hid (N1.out.below hD)
        have XD := Lib.hid (X1.out.trans (hD.mono X1.out.size))
        have t1 := (XD.out.cell (p := ⟨b, off + k * 4 + 1, none⟩) hbb).trans p1
        have t2 := (XD.out.cell (p := ⟨b, off + k * 4 + 2, none⟩) hbb).trans p2
        clear hD hwd N1 X1
        (refine o_pure (v := ?_) (by rfl) (fun w' => ?_) ?_; rotate_left; (focus (go_simp; (try with_reducible rfl))); (try simp only [Act.put, List.setIfInBounds_toArray, List.set_cons_zero, List.set_cons_succ]))
        (refine o_pure (v := ?_) (by rfl) (fun w' => ?_) ?_; rotate_left; (focus (go_simp; (try with_reducible rfl))); (try simp only [Act.put, List.setIfInBounds_toArray, List.set_cons_zero, List.set_cons_succ]))
        (refine o_pure (v := ?_) (by rfl) (fun w' => ?_) ?_; rotate_left; (focus (go_simp; (try with_reducible rfl))); (try simp only [Act.put, List.setIfInBounds_toArray, List.set_cons_zero, List.set_cons_succ]))
        (refine o_pure (v := ?_) (by rfl) (fun w' => ?_) ?_; rotate_left; (focus (go_simp; (try with_reducible rfl))); (try simp only [Act.put, List.setIfInBounds_toArray, List.set_cons_zero, List.set_cons_succ]))
        (refine o_pure (v := ?_) (by rfl) (fun w' => ?_) ?_; rotate_left; (focus (go_simp; (try with_reducible rfl))); (try simp only [Act.put, List.setIfInBounds_toArray, List.set_cons_zero, List.set_cons_succ]))
        (refine o_load _ (by rfl) rfl rfl (by assumption) (by kernel_rfl) ?_; simp only [Act.put, List.setIfInBounds_toArray, List.set_cons_zero, List.set_cons_succ])
        (refine o_pure (v := ?_) (by rfl) (fun w' => ?_) ?_; rotate_left; (focus (go_simp; (try with_reducible rfl))); (try simp only [Act.put, List.setIfInBounds_toArray, List.set_cons_zero, List.set_cons_succ]))
        (refine o_pure (v := ?_) (by rfl) (fun w' => ?_) ?_; rotate_left; (focus (go_simp; (try with_reducible rfl))); (try simp only [Act.put, List.setIfInBounds_toArray, List.set_cons_zero, List.set_cons_succ]))
        (refine o_pure (v := ?_) (by rfl) (fun w' => ?_) ?_; rotate_left; (focus (go_simp; (try with_reducible rfl))); (try simp only [Act.put, List.setIfInBounds_toArray, List.set_cons_zero, List.set_cons_succ]))
        (refine o_pure (v := ?_) (by rfl) (fun w' => ?_) ?_; rotate_left; (focus (go_simp; (try with_reducible rfl))); (try simp only [Act.put, List.setIfInBounds_toArray, List.set_cons_zero, List.set_cons_succ]))
        (refine o_pure (v := ?_) (by rfl) (fun w' => ?_) ?_; rotate_left; (focus (go_simp; (try with_reducible rfl))); (try simp only [Act.put, List.setIfInBounds_toArray, List.set_cons_zero, List.set_cons_succ]))
        (refine o_load _ (by rfl) rfl rfl (by assumption) (by kernel_rfl) ?_; simp only [Act.put, List.setIfInBounds_toArray, List.set_cons_zero, List.set_cons_succ])
        (refine o_pure (v := ?_) (by rfl) (fun w' => ?_) ?_; rotate_left; (focus (go_simp; (try with_reducible rfl))); (try simp only [Act.put, List.setIfInBounds_toArray, List.set_cons_zero, List.set_cons_succ]))
        (refine o_pure (v := ?_) (by rfl) (fun w' => ?_) ?_; rotate_left; (focus (go_simp; (try with_reducible rfl))); (try simp only [Act.put, List.setIfInBounds_toArray, List.set_cons_zero, List.set_cons_succ]))
        clear t1 t2
        refine o_sole (fun K hK => ?_)
        go_wp2_with fail
        refine hK _ _ (fun _ => Ext.of ((Below.refl _ _).alloc (Nat.le_refl _) _)) ?_; clear hK K
        refine o_sole (fun K hK => ?_)
        refine app1n pel8 hh rfl (.tmp 31) (.tmp 45) rfl rfl ND.out rfl rfl (by simp [be_len, hYl]; exact room_ge (by omega)) XD.out.size ?_
        intro u2 v2 hN2 _ hb
        have N2 := Lib.hid hN2
        have X2 := Lib.hid (XD.out.trans hb)
        obtain ⟨A2, n2, c2, rfl, _, _, _⟩ := N2.out.out
        refine wpList_nil ?_
        refine hK _ _ (fun h => by cases h) ?_; clear hK K
        clear hb hN2 ND XD
        (refine o_pure (v := ?_) (by rfl) (fun w' => ?_) ?_; rotate_left; (focus (go_simp; (try with_reducible rfl))); (try simp only [Act.put, List.setIfInBounds_toArray, List.set_cons_zero, List.set_cons_succ]))
        refine o_nil (hQ.out _ _ ?_); clear hQ QQ
        have q3 := (X2.out.cell (p := ⟨b, off + k * 4 + 3, none⟩) hbb).trans p3
        go_wp2_with fail
        refine (rput_any 2 _ _ m w.heap.size v2 (by omega) N2.out X2.out.size (by simp [be_len, hYl]; omega) hm64).mono ?_
        rintro e v3 ⟨u3, rfl, hN3, hb⟩
        have N3 := Lib.hid hN3
        have X3 := Lib.hid (X2.out.trans hb)
        clear hN3 hb N2 X2 q3
        obtain ⟨A3, n3, c3, rfl, _, _, _⟩ := N3.out.out
        have q3 := (X3.out.cell (p := ⟨b, off + k * 4 + 3, none⟩) hbb).trans p3
        go_wp2_with (at_builtin; go_must (refine appstr pel8 Try.underlying9 rfl _ _ rfl rfl N3.out rfl HQB.out (by simp [be_len, hYl]; exact room_ge (by have := HM.out; omega)) X3.out.size ?_))
        intro u4 v4 hN4 _ hb
        have N4 := Lib.hid (show Nats v4 5 .u8 w.heap.size u4 (Y ++ recsB 0 (l.take (k + 1))) from by rw [HREC.out]; simpa using hN4)
        have X4 := Lib.hid (X3.out.trans hb)
        clear q3 hN4 hb N3 X3
        have q0 := (X4.out.cell (p := ⟨b, off + k * 4, none⟩) hbb).trans p0
        go_wp2_with fail
        go_roundw
        case rel => exact ⟨k + 1, t, by omega, by go_num, rfl, HLA, N4, X4.out⟩
        case measure => simp [intOf]; omega
      · have hge : ¬ (k : Int) < (n : Int) := by omega
        have hall : l.take k = l := List.take_of_length_le (by rw [HL.out]; omega)
        have hN2 := hN.out
        have eB : Y ++ recsB 0 l = capB l := by rw [HY.out]; unfold capB; rw [HL.out]
        rw [hall, eB] at hN2
        obtain ⟨A7, n7, c7, rfl, hnc7, hl7, hr7⟩ := hN2.out
        have hn7 : n7 ≤ 50000 := by rw [← hl7.out, capB_len, HL.out]; omega
        have BY := Lib.hid (capB_byte HRR.out HBY.out)
        have N7 := Lib.hid hN2
        have hcl : (capB l).length ≤ 50000 := by rw [hl7.out]; exact hn7
        clear hall hN2 hN eB hl7
        go_wp2_with fail
        refine (rsum_any A7 n7 c7 _ wr hr7.out BY.out (by omega)).mono ?_
        rintro e w8 ⟨rfl, hb⟩
        have N8 := Lib.hid (N7.out.below hb)
        have X8 := Lib.hid (hbw.trans (hb.mono hbw.size))
        obtain ⟨S, hS⟩ : ∃ S, S = sumS (capB l) := ⟨_, rfl⟩
        rw [← hS]
        have HSS := Lib.hid hS
        have hS32 : S < 4294967296 := by rw [hS]; exact sumS_lt _
        have wS : IntKind.u64.wrap (S : Int) = (S : Int) := by rw [IntKind.wrap_u64]; omega
        clear hb hS N7
        go_wp2_with fail
        refine (rput_any 4 _ _ S w.heap.size w8 (by omega) N8.out X8.out.size (by omega) (by omega)).mono ?_
        rintro e w9 ⟨v9, rfl, hN, hb⟩
        have X9 := Lib.hid (X8.out.trans hb)
        have N9 := Lib.hid hN
        clear hb hN N8 X8
        go_wp2_with fail
        go_ret2
        refine ⟨⟨_, true, rfl, ⟨fun _ => HRR.out, fun _ => rfl⟩, ?_⟩, X9.out⟩
        have h1 := N9.out
        rw [HSS.out] at h1
        exact h1
end Go.Proofs.Ytiblmlmkpilgmaa
