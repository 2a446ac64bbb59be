/- append of one struct, of whatever cells. No program. -/
import Derived.Test.YtbiimgfocgbdaaaG12MacBack
import Derived.Test.YtbiimgfocgbdaaaG45MacBack
import Derived.Test.YtbiimgfocgbdaaaG39MacBack
import Derived.Test.YtbiimgfocgbdaaaG34MacBack

namespace Go.Proofs.Ytbiimgfocgbdaaa
open Go.RowKit
set_option linter.unusedVariables false
section
variable {P : Program} {ops : Array Oper} {rest : List Oper} {o : Oper} {a : Act} {Q : Exit → Act → World → Prop} {t e : TypeId} {z : Value} {bytes size : Nat}
theorem appZ {w0 : World} (el : El P t e z size bytes) (cs : Array Value) (hcs : cs.size = size) (hone : ∀ u ∈ cs.toList, u.oneCell' = true) (hgd : o.guard = none) (s d : Operand) (ho : o.op = .call { callee := .builtin .append, args := #[s, d], argTypes := #[t, t] })
    {base : Nat} {v : Value} {n : Nat} {xs : List Value} (hs : a.eval s = v) (hown : w0.ownsRow base e size v n xs) {gz : Nat} (hx : a.eval d = .slice (some ⟨gz, 0, none⟩) 1 1) (hgz : gz = w0.heap.size) (hroom : (n + 1) * bytes ≤ room) (hbase : base ≤ w0.heap.size)
    (h : ∀ v' w', w'.ownsRow base e size v' (n + 1) (xs ++ cs.toList) → w0.grownBy w' v.ownBlock → Below base w0 w' → wpList P ops Q rest (a.put o.dst v') w') : wpList P ops Q (o :: rest) a (w0.alloc (.cells cs e)) := by
  subst hgz
  have hr : Rd (w0.alloc (.cells cs e)) (w0.heap.size + 1) size (some ⟨w0.heap.size, 0, none⟩) 1 cs.toList := Rd.made w0 e cs (by omega)
  refine app el hgd s d ho hs (hown.alloc _) hx hr hone hroom (by simp; omega) fun v' w' h1 h2 h3 => ?_
  have hA := World.grownBy_alloc w0 (.cells cs e) v.ownBlock
  refine h v' w' h1 ?_ (((Below.refl _ _).alloc hbase _).trans h3)
  exact ⟨h2.os.trans hA.os, h2.tape.trans hA.tape, h2.output.trans hA.output, Nat.le_trans hA.size h2.size, fun k hk hne => (h2.block k (by simp; omega) hne).trans (hA.block k hk hne)⟩
end
end Go.Proofs.Ytbiimgfocgbdaaa

/- Layer 10: the words whose sums are right. -/
namespace Go.Proofs.Ytbiimgfocgbdaaa
open Go.RowKit
set_option linter.unusedVariables false
set_option linter.unusedSimpArgs false
theorem relW : El Try.prog 74 40 (.agg #[.int .u8 0, .int .u32 0, .int .u8 0, .int .u8 0, .bool false, .int .u64 0]) 6 24 := ⟨Try.underlying74, by kernel_rfl, rfl, by omega, by omega⟩
/-- A row of words, of one's own. -/
def WO (w : World) (B : Nat) (v : Value) (l : List Wd) : Prop := w.ownsRow B 40 6 v l.length (wcs l)
theorem WO.nil (w : World) (B : Nat) : WO w B (.slice none 0 0) [] := World.ownsRow_nil w B _ _
theorem WO.out {w : World} {B : Nat} {v : Value} {l : List Wd} (h : WO w B v l) : ∃ (A : Option Addr) (n c : Nat), v = .slice A n c ∧ n ≤ c ∧ Hid (l.length = n) ∧ Hid (Rd w w.heap.size 6 A n (wcs l)) := by
  obtain ⟨A, c, e, h1, _, h2⟩ := own_form h
  exact ⟨A, l.length, c, e, h1, rfl, h2⟩
theorem WO.below {w w' : World} {B : Nat} {v : Value} {l : List Wd} (h : WO w B v l) (hb : Below w.heap.size w w') : WO w' B v l := own_below h hb fun g hg => (h.lt g hg).2
theorem WO.mono {w : World} {B B' : Nat} {v : Value} {l : List Wd} (h : WO w B v l) (hb : B' ≤ B) : WO w B' v l := own_mono h hb
set_option maxRecDepth 20000 in
set_option maxHeartbeats 4000000 in
theorem mwords_any (k0 k1 : Nat) (v : Value) (g : Sg) (w : World) (h0 : k0 < 18446744073709551616) (h1 : k1 < 18446744073709551616) (hsv : SegV w v g) (hg : g.bd) (hs : g.small) :
    Calls Try.prog 29 #[.agg #[.int .u64 (k0 : Nat), .int .u64 (k1 : Nat)], v] w fun e w' => (∃ v' ws, e = .returned v' ∧ WO w' w.heap.size v' ws ∧ Wds k0 k1 g ws (keptW k0 k1 g g.opts)) ∧ Below w.heap.size w w' := by
  have HS := Lib.hid hsv
  have HG := Lib.hid hg
  have HM := Lib.hid hs
  obtain ⟨A1, n1, c1, D, m, d, lo, rfl, hO, ho, hD, hmd, hdm⟩ := hsv
  have HO := Lib.hid hO
  have HOS := Lib.hid ho
  have hgl : g.opts.length = n1 := by rw [ho]; unfold osay; rw [List.length_map]; exact hO.len
  have hn1 : n1 ≤ 10000 := by rw [← hgl]; exact hs.opts
  have HGL := Lib.hid hgl
  clear hO ho hD hdm hg hs hgl
  unfold segCs at *
  go_enter Try.func29, Try.ntmps29
  go_upto_region 1 with fail
  have hk0 : Hid (Blk (w.alloc (.cells #[.int .u64 (k0 : Nat), .int .u64 (k1 : Nat)] 24)) (w.heap.size) 24 #[.int .u64 (k0 : Nat), .int .u64 (k1 : Nat)]) := Lib.hid ((Blk.new w 24 #[.int .u64 (k0 : Nat), .int .u64 (k1 : Nat)]))
  replace hk0 : Hid (Blk ((w.alloc (.cells #[.int .u64 (k0 : Nat), .int .u64 (k1 : Nat)] 24)).alloc (.cells #[.int .u16 (g.src : Int), .int .u16 (g.dst : Int), .int .u32 (g.seq : Int), .int .u32 (g.ack : Int), .int .u8 (g.flags : Int), .slice A1 n1 c1, .slice D m d] 30)) (w.heap.size) 24 #[.int .u64 (k0 : Nat), .int .u64 (k1 : Nat)]) := Lib.hid (hk0.out.alloc _)
  have hk1 : Hid (Blk ((w.alloc (.cells #[.int .u64 (k0 : Nat), .int .u64 (k1 : Nat)] 24)).alloc (.cells #[.int .u16 (g.src : Int), .int .u16 (g.dst : Int), .int .u32 (g.seq : Int), .int .u32 (g.ack : Int), .int .u8 (g.flags : Int), .slice A1 n1 c1, .slice D m d] 30)) (w.heap.size + 1) 30 #[.int .u16 (g.src : Int), .int .u16 (g.dst : Int), .int .u32 (g.seq : Int), .int .u32 (g.ack : Int), .int .u8 (g.flags : Int), .slice A1 n1 c1, .slice D m d]) := Lib.hid ((Blk.new (w.alloc (.cells #[.int .u64 (k0 : Nat), .int .u64 (k1 : Nat)] 24)) 30 #[.int .u16 (g.src : Int), .int .u16 (g.dst : Int), .int .u32 (g.seq : Int), .int .u32 (g.ack : Int), .int .u8 (g.flags : Int), .slice A1 n1 c1, .slice D m d]) |> fun h => by simpa using h)
  have b1 : Hid (Below w.heap.size w ((w.alloc (.cells #[.int .u64 (k0 : Nat), .int .u64 (k1 : Nat)] 24)).alloc (.cells #[.int .u16 (g.src : Int), .int .u16 (g.dst : Int), .int .u32 (g.seq : Int), .int .u32 (g.ack : Int), .int .u8 (g.flags : Int), .slice A1 n1 c1, .slice D m d] 30))) := Lib.hid (((Below.refl w.heap.size w).alloc (Nat.le_refl _) (.cells #[.int .u64 (k0 : Nat), .int .u64 (k1 : Nat)] 24)).alloc (by simp <;> omega) (.cells #[.int .u16 (g.src : Int), .int .u16 (g.dst : Int), .int .u32 (g.seq : Int), .int .u32 (g.ack : Int), .int .u8 (g.flags : Int), .slice A1 n1 c1, .slice D m d] 30))
  have hz : ((w.alloc (.cells #[.int .u64 (k0 : Nat), .int .u64 (k1 : Nat)] 24)).alloc (.cells #[.int .u16 (g.src : Int), .int .u16 (g.dst : Int), .int .u32 (g.seq : Int), .int .u32 (g.ack : Int), .int .u8 (g.flags : Int), .slice A1 n1 c1, .slice D m d] 30)).heap.size = w.heap.size + 2 := by simp
  generalize ((w.alloc (.cells #[.int .u64 (k0 : Nat), .int .u64 (k1 : Nat)] 24)).alloc (.cells #[.int .u16 (g.src : Int), .int .u16 (g.dst : Int), .int .u32 (g.seq : Int), .int .u32 (g.ack : Int), .int .u8 (g.flags : Int), .slice A1 n1 c1, .slice D m d] 30)) = w2 at hk0 hk1 b1 hz ⊢
  have HZ := Lib.hid hz
  clear hz
  replace HS := Lib.hid (HS.out.into b1.out)
  replace HO := Lib.hid (HO.out.into b1.out)
  obtain ⟨p0, p1⟩ := ptc2 hk0.out
  obtain ⟨s0, s1, s2, s3, s4, s5, s6⟩ := seg_cells hk1.out
  go_wp2_with fail
  clear p0 p1 s0 s1 s2 s3 s4 s5 s6
  go_loopw [5, 13] (fun ov iv wr => ∃ (i : Nat) (ws : List Wd), i ≤ n1 ∧ iv = .int .i64 (i : Nat) ∧ Hid (WO wr w2.heap.size ov ws) ∧ Hid (Wds k0 k1 g ws (keptW k0 k1 g (g.opts.take i))) ∧ Hid (Below w2.heap.size w2 wr)) (fun _ iv _ => n1 - (intOf iv).toNat)
  case atStart => exact ⟨0, [], Nat.zero_le _, rfl, Lib.hid (WO.nil _ _), Lib.hid (Wds.nil k0 k1 g), Lib.hid (Below.refl _ _)⟩
  case round =>
    obtain ⟨i, ws, hi, rfl, hown, hws, hbw⟩ := hrel
    by_cases hlt : i < n1
    · have HLT := Lib.hid hlt
      have hlt' : (i : Int) < (n1 : Int) := by omega
      have HOr := Lib.hid (HO.out.into hbw.out)
      obtain ⟨ab, ao, ko, q, rfl, hab, c0, c1, hp, hr, hrl⟩ := HOr.out.at_ hlt
      obtain ⟨qA, qn, qc, ql⟩ := q
      dsimp only at *
      have hmem : (ko, ql) ∈ g.opts := by rw [HOS.out]; exact List.mem_of_getElem? (osay_at hp)
      have hat : g.opts[i]? = some (ko, ql) := by rw [HOS.out]; exact osay_at hp
      have HAT := Lib.hid hat
      have hcap := (HOr.out.bod _ (List.mem_of_getElem? hp.out)).2
      have hq : qn ≤ 10000 := by rw [← hrl.out]; exact HM.out.bodies _ hmem
      have HC := Lib.hid (CovV.mk (kd := ko) (HS.out.into hbw.out) HG.out hr.out hcap.1 hq (HG.out.kinds _ hmem) HM.out.data (HG.out.bodies _ hmem))
      have hws2 := Lib.hid (show ws.length ≤ i from by rw [hws.out.1]; exact keptW_le)
      obtain ⟨A5, n5, c5, rfl, hc5, hl5, _⟩ := hown.out.out
      have hbA : Below wr.heap.size wr (wr.alloc (.cells #[.int .u8 (ko : Nat), .slice qA qn qc] 45)) := (Below.refl _ _).alloc (Nat.le_refl _) _
      have KO := Lib.hid (Blk.new wr 45 #[.int .u8 (ko : Nat), .slice qA qn qc])
      have hb4 := hbw.out.trans (hbA.mono hbw.out.size)
      have K0 := Lib.hid (hk0.out.below hb4 hk0.out.lt)
      have K1 := Lib.hid (hk1.out.below hb4 hk1.out.lt)
      have HC4 := Lib.hid (HC.out.into hbA)
      have O4 := Lib.hid (hown.out.below hbA)
      have B4 := Lib.hid hb4
      obtain ⟨o, hO⟩ : ∃ o, o = wr.heap.size := ⟨_, rfl⟩
      clear hbA hb4 hbw hown hr hrl hmem hat hcap hp HOr HC hlt
      go_wp2_with fail
      rw [← hO] at KO ⊢
      clear hO c0 c1
      generalize wr.alloc (.cells #[.int .u8 (ko : Nat), .slice qA qn qc] 45) = w4 at *
      refine (parseWord_any ko qA qn qc ql w4 HC4.out.row HC4.out.cap HC4.out.bytes hq).mono ?_
      rintro e w5 ⟨hp, hb5⟩
      rcases hp with ⟨nm, id, pa, bk, t, rfl, hwi⟩ | ⟨rfl, hno⟩
      · have HWI := Lib.hid hwi
        have hbD : Below w5.heap.size w5 (w5.alloc (.cells #[.int .u8 (ko : Nat), .int .u32 (nm : Nat), .int .u8 (id : Nat), .int .u8 (pa : Nat), .bool bk, .int .u64 (t : Nat)] 40)) := (Below.refl w5.heap.size w5).alloc (Nat.le_refl _) _
        have KD := Lib.hid (Blk.new w5 40 #[.int .u8 (ko : Nat), .int .u32 (nm : Nat), .int .u8 (id : Nat), .int .u8 (pa : Nat), .bool bk, .int .u64 (t : Nat)])
        have hb6 := hb5.trans (hbD.mono hb5.size)
        have K06 := Lib.hid (K0.out.below hb6 K0.out.lt)
        have K16 := Lib.hid (K1.out.below hb6 K1.out.lt)
        have KO6 := Lib.hid (KO.out.below hb6 KO.out.lt)
        have HC6 := Lib.hid (HC4.out.into hb6)
        have O6 := Lib.hid (O4.out.below hb6)
        have B6 := Lib.hid (B4.out.trans (hb6.mono B4.out.size))
        obtain ⟨x, hX⟩ : ∃ x, x = w5.heap.size := ⟨_, rfl⟩
        clear hbD hb6 hb5 K0 K1 KO B4 HC4 O4 hwi
        obtain ⟨tg, htg⟩ : ∃ tg, tg = tagN k0 k1 g ko ql := ⟨_, rfl⟩
        have HTG := Lib.hid htg
        clear htg
        obtain ⟨x0, x1, x2, x3, x4, x5⟩ := ptc6 KD.out
        rw [← hX] at x0 x1 x2 x3 x4 x5
        obtain ⟨p0, p1⟩ := ptc2 K06.out
        obtain ⟨s0, s1, s2, s3, s4, s5, s6⟩ := seg_cells K16.out
        obtain ⟨o0, o1⟩ := ptc2 KO6.out
        rw [← hX] at KD
        go_wp2_with fail
        rw [← hX]
        clear hX p0 p1 s0 s1 s2 s3 s4 s5 s6 o0 o1 x0 x1 x2 x3 x4 x5
        generalize w5.alloc (.cells #[.int .u8 (ko : Nat), .int .u32 (nm : Nat), .int .u8 (id : Nat), .int .u8 (pa : Nat), .bool bk, .int .u64 (t : Nat)] 40) = w6 at *
        refine (mright_any k0 k1 t _ g qA qn qc ko ql w6 h0 h1 HC6.out).mono ?_
        rw [← HTG.out]
        rintro e w7 ⟨rfl, hb7⟩
        have KD7 := Lib.hid (KD.out.below hb7 KD.out.lt)
        have O7 := Lib.hid (O6.out.below hb7)
        have B7 := Lib.hid (B6.out.trans (hb7.mono B6.out.size))
        clear KD B6 hb7 K06 K16 KO6 HC6 O6
        by_cases hq : t = tg
        · have hqd : decide (t = tg) = true := decide_eq_true hq
          have HY := Lib.hid (show WdY k0 k1 g (ko, ql) ⟨ko, nm, id, pa, bk, t⟩ from ⟨rfl, HWI.out, hq.trans HTG.out⟩)
          clear hq HWI HTG
          obtain ⟨x0, x1, x2, x3, x4, x5⟩ := ptc6 KD7.out
          go_wp2_with (at_builtin; refine appZ relW #[.int .u8 (ko : Nat), .int .u32 (nm : Nat), .int .u8 (id : Nat), .int .u8 (pa : Nat), .bool bk, .int .u64 (t : Nat)] rfl (wcs_one [⟨ko, nm, id, pa, bk, t⟩]) rfl (.tmp 32) (.tmp 34) rfl rfl (show w7.ownsRow w2.heap.size 40 6 (.slice A5 n5 c5) n5 (wcs ws) from by have h := O7.out; unfold WO at h; rwa [hl5.out] at h) rfl rfl (room_ge (by have := hws2.out; have := hl5.out; omega)) B7.out.size ?_)
          intro v8 w8 ho8 _ hb8
          have O8 := Lib.hid (show WO w8 w2.heap.size v8 (ws ++ [⟨ko, nm, id, pa, bk, t⟩]) from by
            unfold WO
            rw [List.length_append, wcs_append, hl5.out]
            exact ho8)
          have W8 := Lib.hid (show Wds k0 k1 g (ws ++ [⟨ko, nm, id, pa, bk, t⟩]) (keptW k0 k1 g (g.opts.take (i + 1))) from by rw [keptW_yes HAT.out (goodW_yes HY.out)]; exact hws.out.snoc HY.out)
          have B8 := Lib.hid (B7.out.trans hb8)
          clear O7 B7 hws ho8 hb8 x0 x1 x2 x3 x4 x5
          go_wp2_with fail
          go_roundw
          case rel => exact ⟨i + 1, _, by have := HLT.out; omega, by go_num, O8, W8, B8⟩
          case measure => have := HLT.out; simp [intOf]; omega
        · have hqd : decide (t = tg) = false := decide_eq_false hq
          have HW2 := Lib.hid (show Wds k0 k1 g ws (keptW k0 k1 g (g.opts.take (i + 1))) from by
            rw [keptW_no HAT.out (goodW_no fun y hy => ?_)]
            · exact hws.out
            · obtain ⟨_, e2, e3⟩ := hy
              have e4 := (e2.one HWI.out).2.2.2.2
              exact hq (by rw [← e4, e3, HTG.out]))
          clear hq HWI HTG hws
          go_wp2_with fail
          go_roundw
          case rel => exact ⟨i + 1, _, by have := HLT.out; omega, by go_num, O7, HW2, B7⟩
          case measure => have := HLT.out; simp [intOf]; omega
      · have hbD : Below w5.heap.size w5 (w5.alloc (.cells #[.int .u8 0, .int .u32 0, .int .u8 0, .int .u8 0, .bool false, .int .u64 0] 40)) := (Below.refl w5.heap.size w5).alloc (Nat.le_refl _) _
        have hb6 := hb5.trans (hbD.mono hb5.size)
        have O6 := Lib.hid (O4.out.below hb6)
        have B6 := Lib.hid (B4.out.trans (hb6.mono B4.out.size))
        have HW2 := Lib.hid (show Wds k0 k1 g ws (keptW k0 k1 g (g.opts.take (i + 1))) from by
          rw [keptW_no HAT.out (goodW_no fun y hy => hno _ _ _ _ _ hy.2.1)]
          exact hws.out)
        clear hbD hb6 hb5 K0 K1 KO B4 HC4 O4 hws hno
        go_wp2_with fail
        generalize w5.alloc (.cells #[.int .u8 0, .int .u32 0, .int .u8 0, .int .u8 0, .bool false, .int .u64 0] 40) = w6 at *
        go_wp2_with fail
        go_roundw
        case rel => exact ⟨i + 1, _, by have := HLT.out; omega, by go_num, O6, HW2, B6⟩
        case measure => have := HLT.out; simp [intOf]; omega
    · obtain rfl : n1 = i := by omega
      have hall : g.opts.take n1 = g.opts := List.take_of_length_le (by rw [HGL.out]; exact Nat.le_refl _)
      have hW := hws.out
      rw [hall] at hW
      have HW := Lib.hid hW
      have BF := Lib.hid (b1.out.trans (hbw.out.mono b1.out.size))
      obtain ⟨A5, n5, c5, rfl, hc5, hl5, _⟩ := hown.out.out
      clear hW hall hws hbw
      go_wp2_with fail
      go_ret
      exact ⟨⟨_, _, rfl, hown.out.mono b1.out.size, HW.out⟩, BF.out⟩
end Go.Proofs.Ytbiimgfocgbdaaa
