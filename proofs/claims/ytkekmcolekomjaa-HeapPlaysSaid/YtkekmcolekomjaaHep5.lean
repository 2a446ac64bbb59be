/- Package heap: Due. -/
import Derived.Test.YtkekmcolekomjaaHep4
namespace Go.Proofs.Ytkekmcolekomjaa
open Go.RowKit
set_option linter.unusedVariables false
set_option linter.unusedSimpArgs false
theorem Zats.out' {w : World} {e : TypeId} {k : IntKind} {B : Nat} {v : Value} {l : List Int} (h : Zats w e k B v l) : ∃ (A : Option Addr) (n c : Nat), v = .slice A n c ∧ n ≤ c ∧ Hid (l.length = n) ∧ Hid (Rd w w.heap.size 1 A n (zs k l)) := h.out
theorem Zats.keptH {w w' : World} {g B B' most puts : Nat} {v v' zv : Value} {R : List Nd} {l : List Int} (h : Zats w 3 .i64 B zv l) (hI : HpI w g B' most puts v R) (hk : KeptH g v v' w w') : Zats w' 3 .i64 B zv l :=
  h.kept fun k hz => hk.1 k (h.lt k hz).2 (fun e => by subst e; exact own_ne h hI.blk (by decide) hz) (fun e => by
    obtain ⟨l2, ho, _⟩ := hI.own
    rcases own_open ho with ⟨rfl, _, _⟩ | ⟨rb, c, L, rfl, _, hr, _⟩
    · simp [Value.ownBlock] at e
    · simp [Value.ownBlock] at e
      subst e
      exact own_ne h hr (by decide) hz)
theorem iEl9 : El Try.prog 22 3 (.int .i64 0) 1 8 := ⟨Try.underlying22, by kernel_rfl, rfl, by decide, by decide⟩
theorem srt_due {R1 R2 : List Nd} {now : Int} (hs : Srt (R1 ++ R2)) (h1 : ∀ y ∈ R1, y.1 ≤ now) (h2 : ∀ y, R2.head? = some y → now < y.1) : (R1 ++ R2).filter (fun y => decide (y.1 ≤ now)) = R1 ∧ (R1 ++ R2).filter (fun y => !decide (y.1 ≤ now)) = R2 := by
  have hall : ∀ y ∈ R2, now < y.1 := by
    cases R2 with
    | nil => intro y hy; cases hy
    | cons z R2 =>
      have hz := h2 z rfl
      intro y hy
      rcases List.mem_cons.1 hy with rfl | hy
      · exact hz
      · have := (List.pairwise_cons.1 (List.pairwise_append.1 hs).2.1).1 y hy
        unfold ltN at this; omega
  rw [List.filter_append, List.filter_append]
  refine ⟨?_, ?_⟩
  · rw [List.filter_eq_self.2 (fun y hy => by simpa using h1 y hy), List.filter_eq_nil_iff.2 (fun y hy => by have := hall y hy; simp; omega), List.append_nil]
  · rw [List.filter_eq_nil_iff.2 (fun y hy => by simpa using h1 y hy), List.filter_eq_self.2 (fun y hy => by have := hall y hy; simp; omega), List.nil_append]
set_option maxRecDepth 20000 in
set_option maxHeartbeats 2000000 in
theorem hdue_any (g B most puts : Nat) (v : Value) (R : List Nd) (now : Int) (w : World) (h : HpI w g B most puts v R) :
    Calls Try.prog 19 #[.pointer (some ⟨g, 0, none⟩), .int .i64 now] w fun e w' => ∃ zv, e = .returned zv ∧ Zats w' 3 .i64 w.heap.size zv ((R.filter fun y => decide (y.1 ≤ now)).map fun y => y.2.1) ∧ (∃ v', HpI w' g B most puts v' (R.filter fun y => !decide (y.1 ≤ now)) ∧ KeptH g v v' w w') ∧ Below B w w' := by
  have HI := Lib.hid h
  have hR := Nat.le_trans h.len h.ms
  clear h
  go_enter Try.func19, Try.ntmps19
  go_wp2_with fail
  go_loopw [5] (fun lv wr => ∃ (R1 R2 : List Nd) (hv : Value), Hid (R = R1 ++ R2) ∧ Hid (∀ y ∈ R1, y.1 ≤ now) ∧ Hid (HpI wr g B most puts hv R2) ∧ Hid (KeptH g v hv w wr) ∧ Hid (Zats wr 3 .i64 w.heap.size lv (R1.map fun y => y.2.1)) ∧ Hid (Below B w wr)) (fun lv _ => R.length - lenOf lv)
  case atStart => exact ⟨[], R, v, Lib.hid rfl, Lib.hid (by simp), HI, Lib.hid (KeptH.of_below (Below.refl _ _)), Lib.hid (Zats.nil _ _ _ _), Lib.hid (Below.refl _ _)⟩
  case round =>
    obtain ⟨R1, R2, hv, HRR, H1, HH, HK, HZ, BB⟩ := hrel
    obtain ⟨A2, n2, c2, rfl, hnc2, hl2, hz2⟩ := HZ.out.out'
    have hR12 : R.length = n2 + R2.length := by rw [HRR.out, List.length_append, ← hl2.out, List.length_map]
    have done : (∀ y, R2.head? = some y → now < y.1) → ∃ zv, Value.slice A2 n2 c2 = zv ∧ Zats wr 3 .i64 w.heap.size zv ((R.filter fun y => decide (y.1 ≤ now)).map fun y => y.2.1) ∧ (∃ v', HpI wr g B most puts v' (R.filter fun y => !decide (y.1 ≤ now)) ∧ KeptH g v v' w wr) ∧ Below B w wr := fun h2 => by
      have hs := HI.out.srt
      rw [HRR.out] at hs ⊢
      obtain ⟨e1, e2⟩ := srt_due hs H1.out h2
      rw [e1, e2]
      exact ⟨_, rfl, HZ.out, ⟨hv, HH.out, HK.out⟩, BB.out⟩
    have DONE := Lib.hid done
    clear done
    obtain ⟨d0, d1, d2⟩ := HH.out.cells
    cases hR2 : R2 with
    | nil =>
      subst hR2
      obtain ⟨A, c, rfl, hnc, hcm⟩ := HH.out.form
      have d2 : wr.cell? ⟨g, 2, none⟩ = some (.slice A 0 c) := d2
      obtain ⟨zv, rfl, hz, hv, hb⟩ := DONE.out (by simp)
      have HZ9 := Lib.hid hz; have HV9 := Lib.hid hv; have HB9 := Lib.hid hb
      clear DONE hz hv hb
      go_wp2_with fail
      go_ret
      exact ⟨_, rfl, HZ9.out, HV9.out, HB9.out⟩
    | cons x R2 =>
      subst hR2
      obtain ⟨rb, c, l, rfl, hB, hob, hr, hh, hp⟩ := HH.out.open_ (by simp)
      have e0 := first_eq hh hp HH.out.srt
      have hll : 0 < l.length := by rw [hp.length_eq]; simp
      have hgx := gN_some hll
      rw [e0] at hgx
      obtain ⟨x0, x1, x2⟩ := hr.row.get hgx
      obtain ⟨xa, xw, xo⟩ := x
      dsimp only at x0 x1 x2
      simp only [Nat.zero_mul, Nat.zero_add] at x0 x1 x2
      obtain ⟨m, hm⟩ : ∃ m, m = R2.length := ⟨_, rfl⟩
      have hlm : ((xa, xw, xo) :: R2).length = m + 1 := by rw [hm]; rfl
      have d2 : wr.cell? ⟨g, 2, none⟩ = some (.slice (some ⟨rb, 0, none⟩) (m + 1) c) := by rw [← hlm]; exact d2
      have hm1 : (0 : Int) < (m : Int) + 1 := by omega
      have hmm : m < 65536 := by rw [hlm] at hR12; omega
      have hnm : n2 + m + 1 = R.length := by rw [hlm] at hR12; omega
      clear hr hh hp e0 hll hgx hob
      by_cases hle : xa ≤ now
      · clear DONE
        go_wp2_with fail
        refine (htake_cons g B most puts _ (xa, xw, xo) R2 wr HH.out).mono ?_
        rintro e w2 ⟨rfl, ⟨v2, hi2, hk2⟩, hb2⟩
        unfold itv
        have H2 := Lib.hid hi2
        have KP2 := Lib.hid (HK.out.trans hk2)
        have Z2 := Lib.hid (HZ.out.keptH HH.out hk2)
        have B2 := Lib.hid (BB.out.trans hb2)
        have HW2 := Lib.hid hk2.2.2
        clear hi2 hk2 hb2 d0 d1 d2 x0 x1 x2
        go_upto_region 4 with fail
        have k4 := Lib.hid (Blk.new w2 42 #[.int .i64 xa, .int .i64 xw])
        have hA := (Below.refl w2.heap.size w2).alloc (Nat.le_refl _) (.cells #[.int .i64 xa, .int .i64 xw] 42)
        have I4 := Lib.hid (H2.out.into hA)
        have K4 := Lib.hid (KP2.out.trans (KeptH.of_below hA))
        have Z4 := Lib.hid (Z2.out.below hA)
        have B4 := Lib.hid (B2.out.trans (hA.mono (Nat.le_trans (Nat.le_trans HI.out.bg (Nat.le_of_lt HI.out.lt)) KP2.out.2.2)))
        obtain ⟨jb, hjb⟩ : ∃ x, x = w2.heap.size := ⟨_, rfl⟩
        rw [← hjb] at k4 ⊢
        generalize w2.alloc (.cells #[.int .i64 xa, .int .i64 xw] 42) = w4 at k4 I4 K4 Z4 B4 ⊢
        clear hA hjb H2 KP2 Z2 B2
        obtain ⟨z0, z1⟩ := ptc2 k4.out
        have hz4 : w.heap.size ≤ w4.heap.size := K4.out.2.2
        have hroom : ((R1.map fun y => y.2.1).length + 1) * 8 ≤ room := room_ge (by rw [hl2.out]; omega)
        go_wp2_with (at_builtin; go_must (refine app1z iEl9 xw rfl _ _ rfl rfl Z4.out rfl rfl hroom hz4 ?_))
        intro v5 w5 hz5 hg5 hb5
        have I5 := Lib.hid (I4.out.same (hg5.block g I4.out.lt (fun e => own_ne Z4.out I4.out.blk (by decide) e.symm)) (fun k hk => hg5.block k (I4.out.own_lt k hk) (fun e => by
          obtain ⟨l2, ho, _⟩ := I4.out.own
          rcases own_open ho with ⟨rfl, _, _⟩ | ⟨rb, c, L, rfl, _, hr, _⟩
          · simp [Value.ownBlock] at hk
          · have hk' := hk
            simp [Value.ownBlock] at hk'
            subst hk'
            exact own_ne Z4.out hr (by decide) e.symm)))
        have hBz : B ≤ w.heap.size := Nat.le_trans HI.out.bg (Nat.le_of_lt HI.out.lt)
        have K5 : Hid (KeptH g v v2 w w5) := Lib.hid ⟨fun k hk hg hv => (hg5.block k (Nat.lt_of_lt_of_le hk hz4) (fun e => by have := (Z4.out.lt k e.symm).1; omega)).trans (K4.out.1 k hk hg hv), K4.out.2.1, Nat.le_trans hz4 hb5.size⟩
        have B5 : Hid (Below B w w5) := Lib.hid (B4.out.grown hg5 (Nat.le_trans hBz hz4) (fun k hk => Nat.le_trans hBz (Z4.out.lt k hk).1))
        have Z5 : Hid (Zats w5 3 .i64 w.heap.size v5 ((R1 ++ [(xa, xw, xo)]).map fun y => y.2.1)) := Lib.hid (by rw [List.map_append]; exact hz5)
        obtain ⟨A5, n5, c5, rfl, hnc5, hl5, _⟩ := Z5.out.out'
        have hn5 : n5 = n2 + 1 := by rw [← hl5.out, ← hl2.out]; simp
        have HR5 : Hid (R = (R1 ++ [(xa, xw, xo)]) ++ R2) := Lib.hid (by rw [HRR.out]; simp)
        have HL5 : Hid (∀ y ∈ R1 ++ [(xa, xw, xo)], y.1 ≤ now) := Lib.hid (by
          intro y hy
          rcases List.mem_append.1 hy with hy | hy
          · exact H1.out y hy
          · obtain rfl := List.mem_singleton.1 hy; exact hle)
        clear hz5 hg5 hb5 z0 z1 Z4 I4 K4 B4 k4
        go_wp2_with fail
        go_roundw
        case rel => exact ⟨R1 ++ [(xa, xw, xo)], R2, v2, HR5, HL5, I5, K5, Z5, B5⟩
        case measure => simp [lenOf]; omega
      · obtain ⟨zv, rfl, hz, hv, hb⟩ := DONE.out (by intro y hy; simp at hy; subst hy; omega)
        have HZ9 := Lib.hid hz; have HV9 := Lib.hid hv; have HB9 := Lib.hid hb
        clear DONE hz hv hb
        go_wp2_with fail
        go_ret
        exact ⟨_, rfl, HZ9.out, HV9.out, HB9.out⟩
end Go.Proofs.Ytkekmcolekomjaa
