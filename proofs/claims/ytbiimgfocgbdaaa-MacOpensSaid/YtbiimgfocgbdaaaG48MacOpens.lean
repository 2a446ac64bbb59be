/- Layer 10: the document's words whose sums are right. -/
import Derived.Test.YtbiimgfocgbdaaaG47MacOpens
import Derived.Test.YtbiimgfocgbdaaaG45MacOpens
import Derived.Test.YtbiimgfocgbdaaaG44MacOpens
import Derived.Test.YtbiimgfocgbdaaaG38MacOpens
import Derived.Test.YtbiimgfocgbdaaaG42MacOpens

namespace Go.Proofs.Ytbiimgfocgbdaaa
open Go.RowKit
set_option linter.unusedVariables false
set_option linter.unusedSimpArgs false
/-- Options whose sums are right. -/
noncomputable def keptO (k0 k1 : Nat) (g : Sg) (l : List Ob) : List Ob := l.filter fun p => goodW k0 k1 g (p.1, p.2.l)
theorem keptO_say (k0 k1 : Nat) (g : Sg) (l : List Ob) : osay (keptO k0 k1 g l) = keptW k0 k1 g (osay l) := by
  unfold osay keptO keptW
  rw [List.filter_map]
  rfl
theorem keptO_yes {k0 k1 : Nat} {g : Sg} {l : List Ob} {i k : Nat} {q : Body} (h : l[i]? = some (k, q)) (e : goodW k0 k1 g (k, q.l) = true) : keptO k0 k1 g (l.take (i + 1)) = keptO k0 k1 g (l.take i) ++ [(k, q)] := by
  unfold keptO
  rw [List.take_add_one, h]
  simp [e]
theorem keptO_no {k0 k1 : Nat} {g : Sg} {l : List Ob} {i k : Nat} {q : Body} (h : l[i]? = some (k, q)) (e : goodW k0 k1 g (k, q.l) = false) : keptO k0 k1 g (l.take (i + 1)) = keptO k0 k1 g (l.take i) := by
  unfold keptO
  rw [List.take_add_one, h]
  simp [e]
theorem keptO_le {k0 k1 : Nat} {g : Sg} {l : List Ob} {i : Nat} : (keptO k0 k1 g (l.take i)).length ≤ i := Nat.le_trans (List.length_filter_le _ _) (by rw [List.length_take]; omega)
/-- A row of options, of one's own. -/
def OO (w : World) (B : Nat) (v : Value) (l : List Ob) : Prop := w.ownsRow B 45 2 v l.length (ocs l)
theorem OO.nil (w : World) (B : Nat) : OO w B (.slice none 0 0) [] := World.ownsRow_nil w B _ _
theorem OO.out {w : World} {B : Nat} {v : Value} {l : List Ob} (h : OO w B v l) : ∃ (A : Option Addr) (n c : Nat), v = .slice A n c ∧ n ≤ c ∧ c ≤ maxLen ∧ Hid (l.length = n) ∧ Hid (Rd w w.heap.size 2 A n (ocs l)) := by
  obtain ⟨A, c, e, h1, h3, h2⟩ := own_form h
  exact ⟨A, l.length, c, e, h1, h3, rfl, h2⟩
theorem OO.below {w w' : World} {B : Nat} {v : Value} {l : List Ob} (h : OO w B v l) (hb : Below w.heap.size w w') : OO w' B v l := own_below h hb fun g hg => (h.lt g hg).2
theorem OO.mono {w : World} {B B' : Nat} {v : Value} {l : List Ob} (h : OO w B v l) (hb : B' ≤ B) : OO w B' v l := own_mono h hb
/-- A row of one's own of options that were there. -/
theorem OO.os {w w2 : World} {B n n1 c c1 : Nat} {A A1 : Option Addr} {l lo : List Ob} (h : OO w B (.slice A n c) l) (ho : Os w2 A1 n1 c1 lo) (hb : Below w2.heap.size w2 w) (hm : ∀ p ∈ l, p ∈ lo) : Os w A n c l := by
  obtain ⟨A', n', c', e, h1, h2, h3, h4⟩ := h.out
  injection e with e1 e2 e3
  subst e1 e2 e3
  exact ⟨h4.out, fun p hp => ⟨(ho.bod p (hm p hp)).1.into hb, (ho.bod p (hm p hp)).2⟩, h1, h2⟩
set_option maxRecDepth 20000 in
set_option maxHeartbeats 4000000 in
theorem rwords_any (k0 k1 : Nat) (v : Value) (g : Sg) (w : World) (h0 : k0 < 18446744073709551616) (h1 : k1 < 18446744073709551616) (hsv : SegV w v g) (hg : g.bd) (hs : g.small) :
    Calls Try.prog 30 #[.agg #[.int .u64 (k0 : Nat), .int .u64 (k1 : Nat)], v] w fun e w' => (∃ A n c lo, e = .returned (.slice A n c) ∧ Os w' A n c lo ∧ osay lo = keptW k0 k1 g g.opts) ∧ Below w.heap.size w w' := by
  have HS := Lib.hid hsv
  have HG := Lib.hid hg
  have HM := Lib.hid hs
  obtain ⟨A1, n1, c1, D, m, d, lo, rfl, hO, ho, hD, hmd, hdm⟩ := hsv
  have HO := Lib.hid hO
  have HOS := Lib.hid ho
  have hgl : g.opts.length = n1 := by rw [ho]; unfold osay; rw [List.length_map]; exact hO.len
  have hn1 : n1 ≤ 10000 := by rw [← hgl]; exact hs.opts
  have HGL := Lib.hid hO.len
  clear hO ho hD hdm hg hs hgl
  unfold segCs at *
  go_enter Try.func30, Try.ntmps30
  go_upto_region 1 with fail
  have hk0 : Hid (Blk (w.alloc (.cells #[.int .u64 (k0 : Nat), .int .u64 (k1 : Nat)] 24)) (w.heap.size) 24 #[.int .u64 (k0 : Nat), .int .u64 (k1 : Nat)]) := Lib.hid ((Blk.new w 24 #[.int .u64 (k0 : Nat), .int .u64 (k1 : Nat)]))
  replace hk0 : Hid (Blk ((w.alloc (.cells #[.int .u64 (k0 : Nat), .int .u64 (k1 : Nat)] 24)).alloc (.cells #[.int .u16 (g.src : Int), .int .u16 (g.dst : Int), .int .u32 (g.seq : Int), .int .u32 (g.ack : Int), .int .u8 (g.flags : Int), .slice A1 n1 c1, .slice D m d] 30)) (w.heap.size) 24 #[.int .u64 (k0 : Nat), .int .u64 (k1 : Nat)]) := Lib.hid (hk0.out.alloc _)
  have hk1 : Hid (Blk ((w.alloc (.cells #[.int .u64 (k0 : Nat), .int .u64 (k1 : Nat)] 24)).alloc (.cells #[.int .u16 (g.src : Int), .int .u16 (g.dst : Int), .int .u32 (g.seq : Int), .int .u32 (g.ack : Int), .int .u8 (g.flags : Int), .slice A1 n1 c1, .slice D m d] 30)) (w.heap.size + 1) 30 #[.int .u16 (g.src : Int), .int .u16 (g.dst : Int), .int .u32 (g.seq : Int), .int .u32 (g.ack : Int), .int .u8 (g.flags : Int), .slice A1 n1 c1, .slice D m d]) := Lib.hid ((Blk.new (w.alloc (.cells #[.int .u64 (k0 : Nat), .int .u64 (k1 : Nat)] 24)) 30 #[.int .u16 (g.src : Int), .int .u16 (g.dst : Int), .int .u32 (g.seq : Int), .int .u32 (g.ack : Int), .int .u8 (g.flags : Int), .slice A1 n1 c1, .slice D m d]) |> fun h => by simpa using h)
  have b1 : Hid (Below w.heap.size w ((w.alloc (.cells #[.int .u64 (k0 : Nat), .int .u64 (k1 : Nat)] 24)).alloc (.cells #[.int .u16 (g.src : Int), .int .u16 (g.dst : Int), .int .u32 (g.seq : Int), .int .u32 (g.ack : Int), .int .u8 (g.flags : Int), .slice A1 n1 c1, .slice D m d] 30))) := Lib.hid (((Below.refl w.heap.size w).alloc (Nat.le_refl _) (.cells #[.int .u64 (k0 : Nat), .int .u64 (k1 : Nat)] 24)).alloc (by simp <;> omega) (.cells #[.int .u16 (g.src : Int), .int .u16 (g.dst : Int), .int .u32 (g.seq : Int), .int .u32 (g.ack : Int), .int .u8 (g.flags : Int), .slice A1 n1 c1, .slice D m d] 30))
  have hz : ((w.alloc (.cells #[.int .u64 (k0 : Nat), .int .u64 (k1 : Nat)] 24)).alloc (.cells #[.int .u16 (g.src : Int), .int .u16 (g.dst : Int), .int .u32 (g.seq : Int), .int .u32 (g.ack : Int), .int .u8 (g.flags : Int), .slice A1 n1 c1, .slice D m d] 30)).heap.size = w.heap.size + 2 := by simp
  generalize ((w.alloc (.cells #[.int .u64 (k0 : Nat), .int .u64 (k1 : Nat)] 24)).alloc (.cells #[.int .u16 (g.src : Int), .int .u16 (g.dst : Int), .int .u32 (g.seq : Int), .int .u32 (g.ack : Int), .int .u8 (g.flags : Int), .slice A1 n1 c1, .slice D m d] 30)) = w2 at hk0 hk1 b1 hz ⊢
  have HZ := Lib.hid hz
  clear hz
  replace HS := Lib.hid (HS.out.into b1.out)
  replace HO := Lib.hid (HO.out.into b1.out)
  go_wp2_with fail
  go_loopw [5, 6] (fun ov iv wr => ∃ i : Nat, i ≤ n1 ∧ iv = .int .i64 (i : Nat) ∧ Hid (OO wr w2.heap.size ov (keptO k0 k1 g (lo.take i))) ∧ Hid (Below w2.heap.size w2 wr)) (fun _ iv _ => n1 - (intOf iv).toNat)
  case atStart => exact ⟨0, Nat.zero_le _, rfl, Lib.hid (OO.nil _ _), Lib.hid (Below.refl _ _)⟩
  case round =>
    obtain ⟨i, hi, rfl, hown, hbw⟩ := hrel
    have KSr := Lib.hid (hk1.out.below hbw.out hk1.out.lt)
    obtain ⟨_, _, _, _, _, s5, _⟩ := seg_cells KSr.out
    by_cases hlt : i < n1
    · have HLT := Lib.hid hlt
      have hlt' : (i : Int) < (n1 : Int) := by omega
      have HOr := Lib.hid (HO.out.into hbw.out)
      obtain ⟨ab, ao, ko, q, eA, hab0, c0, c1', hp, hr, hrl⟩ := HOr.out.at_ hlt
      obtain ⟨qA, qn, qc, ql⟩ := q
      dsimp only at *
      have EA := Lib.hid eA
      have HP := Lib.hid hp.out
      have hmem : (ko, ql) ∈ g.opts := by rw [HOS.out]; exact List.mem_of_getElem? (osay_at hp)
      have hcap := (HOr.out.bod _ (List.mem_of_getElem? hp.out)).2
      have hq : qn ≤ 10000 := by rw [← hrl.out]; exact HM.out.bodies _ hmem
      have HC := Lib.hid (CovV.mk (kd := ko) (HS.out.into hbw.out) HG.out hr.out hcap.1 hq (HG.out.kinds _ hmem) HM.out.data (HG.out.bodies _ hmem))
      have hws2 := Lib.hid (keptO_le (k0 := k0) (k1 := k1) (g := g) (l := lo) (i := i))
      have K0 := Lib.hid (hk0.out.below hbw.out hk0.out.lt)
      have Q0 := Lib.hid c0
      have Q1 := Lib.hid c1'
      clear hr hrl hmem hcap hp HOr hlt
      rw [eA] at s5
      clear eA
      go_wp2_with fail
      refine (rparseWord_any ko qA qn qc ql wr HC.out.row HC.out.cap HC.out.bytes hq).mono ?_
      rintro e w5 ⟨hp, hb5⟩
      rcases hp with ⟨nm, id, pa, bk, t, rfl, hwi⟩ | ⟨rfl, hno⟩
      · have HWI := Lib.hid hwi
        have hbD : Below w5.heap.size w5 (w5.alloc (.cells #[.int .u32 (nm : Nat), .int .u8 (id : Nat), .int .u8 (pa : Nat), .bool bk, .int .u64 (t : Nat)] 61)) := (Below.refl w5.heap.size w5).alloc (Nat.le_refl _) _
        have KD := Lib.hid (Blk.new w5 61 #[.int .u32 (nm : Nat), .int .u8 (id : Nat), .int .u8 (pa : Nat), .bool bk, .int .u64 (t : Nat)])
        have hb6 := hb5.trans (hbD.mono hb5.size)
        have K06 := Lib.hid (K0.out.below hb6 K0.out.lt)
        have K16 := Lib.hid (KSr.out.below hb6 KSr.out.lt)
        have HC6 := Lib.hid (HC.out.into hb6)
        have O6 := Lib.hid (hown.out.below hb6)
        have B6 := Lib.hid (hbw.out.trans (hb6.mono hbw.out.size))
        have P0 := Lib.hid ((hb6.cell (p := ⟨ab, ao + i * 2, none⟩) hab0).trans Q0.out)
        have P1 := Lib.hid ((hb6.cell (p := ⟨ab, ao + i * 2 + 1, none⟩) hab0).trans Q1.out)
        have hab2 := Nat.lt_of_lt_of_le hab0 hb6.size
        obtain ⟨x, hX⟩ : ∃ x, x = w5.heap.size := ⟨_, rfl⟩
        rw [← hX] at KD
        clear hbD hb6 hb5 K0 KSr HC hown hbw hwi Q0 Q1 c0 c1' s5
        obtain ⟨tg, htg⟩ : ∃ tg, tg = tagN k0 k1 g ko ql := ⟨_, rfl⟩
        have HTG := Lib.hid htg
        clear htg
        have HTAG : Hid (∀ w', CovV w' (.agg #[.int .u16 (g.src : Int), .int .u16 (g.dst : Int), .int .u32 (g.seq : Int), .int .u32 (g.ack : Int), .int .u8 (g.flags : Int), .slice A1 n1 c1, .slice D m d]) g qA qn qc ko ql → Calls Try.prog 14 #[.agg #[.int .u64 (k0 : Nat), .int .u64 (k1 : Nat)], .agg #[.int .u16 (g.src : Int), .int .u16 (g.dst : Int), .int .u32 (g.seq : Int), .int .u32 (g.ack : Int), .int .u8 (g.flags : Int), .slice A1 n1 c1, .slice D m d], .int .u8 (ko : Nat), .slice qA qn qc] w' fun e w'' => e = .returned (.int .u64 (tg : Nat)) ∧ Below w'.heap.size w' w'') := Lib.hid (fun w' h => by rw [HTG.out]; exact rtag_any k0 k1 _ g qA qn qc ko ql w' h0 h1 h)
        go_upto_region 6 with fail
        rw [← hX]
        clear hX
        generalize w5.alloc (.cells #[.int .u32 (nm : Nat), .int .u8 (id : Nat), .int .u8 (pa : Nat), .bool bk, .int .u64 (t : Nat)] 61) = w6 at *
        have hab := hab2
        by_cases hq : t = tg
        · have HQD := Lib.hid (show ((t : Int) == (tg : Int)) = true from by rw [hq]; simp)
          have HY := Lib.hid (show WdY k0 k1 g (ko, ql) ⟨ko, nm, id, pa, bk, t⟩ from ⟨rfl, HWI.out, hq.trans HTG.out⟩)
          clear hq HWI HTG
          refine GH.wp_ghl (M := false) 21 ((GH.SP.eq (.bool true)) :: (GH.SP.eq (.bool true)) :: (GH.SP.eq (.pointer (some ⟨x, 4, none⟩))) :: (GH.SP.eq (.int .u64 (t : Nat))) :: (GH.SP.eq (.agg #[.int .u64 (k0 : Nat), .int .u64 (k1 : Nat)])) :: (GH.SP.eq (.agg #[.int .u16 (g.src : Int), .int .u16 (g.dst : Int), .int .u32 (g.seq : Int), .int .u32 (g.ack : Int), .int .u8 (g.flags : Int), .slice A1 n1 c1, .slice D m d])) :: (GH.SP.eq (.pointer (some ⟨w.heap.size + 1, 5, none⟩))) :: (GH.SP.eq (.slice A1 n1 c1)) :: (GH.SP.eq (.int .i64 (i : Nat))) :: (GH.SP.eq (.pointer (some ⟨ab, ao + i * 2, none⟩))) :: (GH.SP.eq (.pointer (some ⟨ab, ao + i * 2, none⟩))) :: (GH.SP.eq (.int .u8 (ko : Nat))) :: (GH.SP.eq (.pointer (some ⟨w.heap.size + 1, 5, none⟩))) :: (GH.SP.eq (.slice A1 n1 c1)) :: (GH.SP.eq (.int .i64 (i : Nat))) :: (GH.SP.eq (.pointer (some ⟨ab, ao + i * 2, none⟩))) :: (GH.SP.eq (.pointer (some ⟨ab, ao + i * 2 + 1, none⟩))) :: (GH.SP.eq (.slice qA qn qc)) :: (GH.SP.eq (.int .u64 (tg : Nat))) :: (GH.SP.eq (.bool true)) :: (GH.SP.eq (.bool true)) :: []) (none :: none :: none :: none :: none :: none :: none :: none :: none :: none :: none :: none :: none :: none :: none :: none :: none :: none :: none :: none :: none :: none :: none :: none :: none :: (some 0) :: (some 1) :: (some 2) :: (some 3) :: (some 4) :: (some 5) :: (some 6) :: (some 7) :: (some 8) :: (some 9) :: (some 10) :: (some 11) :: (some 12) :: (some 13) :: (some 14) :: (some 15) :: (some 16) :: (some 17) :: (some 18) :: (some 19) :: (some 20) :: none :: none :: none :: none :: none :: none :: none :: none :: none :: []) [25, 26, 27, 28, 29, 30, 31, 32, 33, 34, 35, 36, 37, 38, 39, 40, 41, 42, 43, 44, 45] (by rfl) (by kernel_rfl) (by kernel_rfl) ?_ ?_ ?_
          · intro S jx v hjx
            match jx, hjx with
            | 0, _ => rfl
            | 1, _ => rfl
            | 2, _ => rfl
            | 3, _ => rfl
            | 4, _ => rfl
            | 5, _ => rfl
            | 6, _ => rfl
            | 7, _ => rfl
            | 8, _ => rfl
            | 9, _ => rfl
            | 10, _ => rfl
            | 11, _ => rfl
            | 12, _ => rfl
            | 13, _ => rfl
            | 14, _ => rfl
            | 15, _ => rfl
            | 16, _ => rfl
            | 17, _ => rfl
            | 18, _ => rfl
            | 19, _ => rfl
            | 20, _ => rfl
            | nx + 21, hjx => omega
          · intro jx hjx S w' hb hd
            match jx, hjx, hd with
            | 0, _, hd =>
              simp only [GH.mkL, List.getD_cons_succ, List.getD_cons_zero]
              clear hd
              refine GH.st_eq (by rfl) ?_
              go_simp
              (try with_reducible rfl)
            | 1, _, hd =>
              simp only [GH.mkL, List.getD_cons_succ, List.getD_cons_zero]
              have d0 : S 0 = .bool true := (hd 0 (by kernel_rfl)).2
              rw [d0]
              clear d0
              clear hd
              refine GH.st_eq (by rfl) ?_
              go_simp
              (try with_reducible rfl)
            | 2, _, hd =>
              simp only [GH.mkL, List.getD_cons_succ, List.getD_cons_zero]
              have d1 : S 1 = .bool true := (hd 1 (by kernel_rfl)).2
              rw [d1]
              clear d1
              clear hd
              refine GH.st_eq (by rfl) ?_
              go_simp
              (try with_reducible rfl)
            | 3, _, hd =>
              simp only [GH.mkL, List.getD_cons_succ, List.getD_cons_zero]
              have d1 : S 1 = .bool true := (hd 1 (by kernel_rfl)).2
              rw [d1]
              clear d1
              have d2 : S 2 = .pointer (some ⟨x, 4, none⟩) := (hd 2 (by kernel_rfl)).2
              rw [d2]
              clear d2
              clear hd
              exact GH.st_load _ (by rfl) rfl rfl (((KD.out.below hb.below KD.out.lt)).cell 4) (by kernel_rfl)
            | 4, _, hd =>
              simp only [GH.mkL, List.getD_cons_succ, List.getD_cons_zero]
              have d1 : S 1 = .bool true := (hd 1 (by kernel_rfl)).2
              rw [d1]
              clear d1
              clear hd
              exact GH.st_loads _ [.int .u64 (k0 : Nat), .int .u64 (k1 : Nat)] (by rfl) rfl rfl (((K06.out.below hb.below K06.out.lt)).loads 0 _ (by rfl)) (by kernel_rfl) (by kernel_rfl)
            | 5, _, hd =>
              simp only [GH.mkL, List.getD_cons_succ, List.getD_cons_zero]
              have d1 : S 1 = .bool true := (hd 1 (by kernel_rfl)).2
              rw [d1]
              clear d1
              clear hd
              exact GH.st_loads _ [.int .u16 (g.src : Int), .int .u16 (g.dst : Int), .int .u32 (g.seq : Int), .int .u32 (g.ack : Int), .int .u8 (g.flags : Int), .slice A1 n1 c1, .slice D m d] (by rfl) rfl rfl (((K16.out.below hb.below K16.out.lt)).loads 0 _ (by rfl)) (by kernel_rfl) (by kernel_rfl)
            | 6, _, hd =>
              simp only [GH.mkL, List.getD_cons_succ, List.getD_cons_zero]
              have d1 : S 1 = .bool true := (hd 1 (by kernel_rfl)).2
              rw [d1]
              clear d1
              clear hd
              refine GH.st_eq (by rfl) ?_
              go_simp
              (try with_reducible rfl)
            | 7, _, hd =>
              simp only [GH.mkL, List.getD_cons_succ, List.getD_cons_zero]
              have d1 : S 1 = .bool true := (hd 1 (by kernel_rfl)).2
              rw [d1]
              clear d1
              have d6 : S 6 = .pointer (some ⟨w.heap.size + 1, 5, none⟩) := (hd 6 (by kernel_rfl)).2
              rw [d6]
              clear d6
              clear hd
              exact GH.st_load _ (by rfl) rfl rfl (((K16.out.below hb.below K16.out.lt)).cell 5) (by kernel_rfl)
            | 8, _, hd =>
              simp only [GH.mkL, List.getD_cons_succ, List.getD_cons_zero]
              have d1 : S 1 = .bool true := (hd 1 (by kernel_rfl)).2
              rw [d1]
              clear d1
              clear hd
              refine GH.st_eq (by rfl) ?_
              go_simp
              (try with_reducible rfl)
            | 9, _, hd =>
              simp only [GH.mkL, List.getD_cons_succ, List.getD_cons_zero]
              have d1 : S 1 = .bool true := (hd 1 (by kernel_rfl)).2
              rw [d1]
              clear d1
              have d7 : S 7 = .slice A1 n1 c1 := (hd 7 (by kernel_rfl)).2
              rw [d7]
              clear d7
              have d8 : S 8 = .int .i64 (i : Nat) := (hd 8 (by kernel_rfl)).2
              rw [d8]
              clear d8
              clear hd
              refine GH.st_eq (by rfl) ?_
              rw [EA.out]
              go_simp
              (try with_reducible rfl)
            | 10, _, hd =>
              simp only [GH.mkL, List.getD_cons_succ, List.getD_cons_zero]
              have d1 : S 1 = .bool true := (hd 1 (by kernel_rfl)).2
              rw [d1]
              clear d1
              have d9 : S 9 = .pointer (some ⟨ab, ao + i * 2, none⟩) := (hd 9 (by kernel_rfl)).2
              rw [d9]
              clear d9
              clear hd
              refine GH.st_eq (by rfl) ?_
              go_simp
              (try with_reducible rfl)
            | 11, _, hd =>
              simp only [GH.mkL, List.getD_cons_succ, List.getD_cons_zero]
              have d1 : S 1 = .bool true := (hd 1 (by kernel_rfl)).2
              rw [d1]
              clear d1
              have d10 : S 10 = .pointer (some ⟨ab, ao + i * 2, none⟩) := (hd 10 (by kernel_rfl)).2
              rw [d10]
              clear d10
              clear hd
              exact GH.st_load _ (by rfl) rfl rfl (hb.at_ hab P0.out) (by kernel_rfl)
            | 12, _, hd =>
              simp only [GH.mkL, List.getD_cons_succ, List.getD_cons_zero]
              have d1 : S 1 = .bool true := (hd 1 (by kernel_rfl)).2
              rw [d1]
              clear d1
              clear hd
              refine GH.st_eq (by rfl) ?_
              go_simp
              (try with_reducible rfl)
            | 13, _, hd =>
              simp only [GH.mkL, List.getD_cons_succ, List.getD_cons_zero]
              have d1 : S 1 = .bool true := (hd 1 (by kernel_rfl)).2
              rw [d1]
              clear d1
              have d12 : S 12 = .pointer (some ⟨w.heap.size + 1, 5, none⟩) := (hd 12 (by kernel_rfl)).2
              rw [d12]
              clear d12
              clear hd
              exact GH.st_load _ (by rfl) rfl rfl (((K16.out.below hb.below K16.out.lt)).cell 5) (by kernel_rfl)
            | 14, _, hd =>
              simp only [GH.mkL, List.getD_cons_succ, List.getD_cons_zero]
              have d1 : S 1 = .bool true := (hd 1 (by kernel_rfl)).2
              rw [d1]
              clear d1
              clear hd
              refine GH.st_eq (by rfl) ?_
              go_simp
              (try with_reducible rfl)
            | 15, _, hd =>
              simp only [GH.mkL, List.getD_cons_succ, List.getD_cons_zero]
              have d1 : S 1 = .bool true := (hd 1 (by kernel_rfl)).2
              rw [d1]
              clear d1
              have d13 : S 13 = .slice A1 n1 c1 := (hd 13 (by kernel_rfl)).2
              rw [d13]
              clear d13
              have d14 : S 14 = .int .i64 (i : Nat) := (hd 14 (by kernel_rfl)).2
              rw [d14]
              clear d14
              clear hd
              refine GH.st_eq (by rfl) ?_
              rw [EA.out]
              go_simp
              (try with_reducible rfl)
            | 16, _, hd =>
              simp only [GH.mkL, List.getD_cons_succ, List.getD_cons_zero]
              have d1 : S 1 = .bool true := (hd 1 (by kernel_rfl)).2
              rw [d1]
              clear d1
              have d15 : S 15 = .pointer (some ⟨ab, ao + i * 2, none⟩) := (hd 15 (by kernel_rfl)).2
              rw [d15]
              clear d15
              clear hd
              refine GH.st_eq (by rfl) ?_
              go_simp
              (try with_reducible rfl)
            | 17, _, hd =>
              simp only [GH.mkL, List.getD_cons_succ, List.getD_cons_zero]
              have d1 : S 1 = .bool true := (hd 1 (by kernel_rfl)).2
              rw [d1]
              clear d1
              have d16 : S 16 = .pointer (some ⟨ab, ao + i * 2 + 1, none⟩) := (hd 16 (by kernel_rfl)).2
              rw [d16]
              clear d16
              clear hd
              exact GH.st_load _ (by rfl) rfl rfl (hb.at_ hab P1.out) (by kernel_rfl)
            | 18, _, hd =>
              simp only [GH.mkL, List.getD_cons_succ, List.getD_cons_zero]
              have d1 : S 1 = .bool true := (hd 1 (by kernel_rfl)).2
              rw [d1]
              clear d1
              have d4 : S 4 = .agg #[.int .u64 (k0 : Nat), .int .u64 (k1 : Nat)] := (hd 4 (by kernel_rfl)).2
              rw [d4]
              clear d4
              have d5 : S 5 = .agg #[.int .u16 (g.src : Int), .int .u16 (g.dst : Int), .int .u32 (g.seq : Int), .int .u32 (g.ack : Int), .int .u8 (g.flags : Int), .slice A1 n1 c1, .slice D m d] := (hd 5 (by kernel_rfl)).2
              rw [d5]
              clear d5
              have d11 : S 11 = .int .u8 (ko : Nat) := (hd 11 (by kernel_rfl)).2
              rw [d11]
              clear d11
              have d17 : S 17 = .slice qA qn qc := (hd 17 (by kernel_rfl)).2
              rw [d17]
              clear d17
              clear hd
              refine GH.st_call (by rfl) hb.below.size (by go_simp) ((HTAG.out w' (HC6.out.gr hb)).mono ?_)
              rintro e w9 ⟨rfl, hb9⟩
              exact ⟨_, rfl, hb9, rfl⟩
            | 19, _, hd =>
              simp only [GH.mkL, List.getD_cons_succ, List.getD_cons_zero]
              have d1 : S 1 = .bool true := (hd 1 (by kernel_rfl)).2
              rw [d1]
              clear d1
              have d3 : S 3 = .int .u64 (t : Nat) := (hd 3 (by kernel_rfl)).2
              rw [d3]
              clear d3
              have d18 : S 18 = .int .u64 (tg : Nat) := (hd 18 (by kernel_rfl)).2
              rw [d18]
              clear d18
              clear hd
              refine GH.st_eq (by rfl) ?_
              have hqd := HQD.out
              go_simp
              (try with_reducible rfl)
            | 20, _, hd =>
              simp only [GH.mkL, List.getD_cons_succ, List.getD_cons_zero]
              have d1 : S 1 = .bool true := (hd 1 (by kernel_rfl)).2
              rw [d1]
              clear d1
              have d19 : S 19 = .bool true := (hd 19 (by kernel_rfl)).2
              rw [d19]
              clear d19
              clear hd
              refine GH.st_eq (by rfl) ?_
              go_simp
              (try with_reducible rfl)
            | nx + 21, hjx, _ => omega
          intro S w' hb hG
          simp only [GH.mkL, List.drop_succ_cons, List.drop_zero]
          have d20 : S 20 = .bool true := hG 20 (by omega)
          rw [d20]
          clear d20
          clear hG
          have hb7 : Below w6.heap.size w6 w' := hb.below
          have K07 := Lib.hid (K06.out.below hb7 K06.out.lt)
          have K17 := Lib.hid (K16.out.below hb7 K16.out.lt)
          have O7 := Lib.hid (O6.out.below hb7)
          have B7 := Lib.hid (B6.out.trans (hb7.mono B6.out.size))
          replace P0 := Lib.hid ((hb7.cell (p := ⟨ab, ao + i * 2, none⟩) hab).trans P0.out)
          replace P1 := Lib.hid ((hb7.cell (p := ⟨ab, ao + i * 2 + 1, none⟩) hab).trans P1.out)
          clear KD B6 hb7 K06 K16 HC6 O6 hb HTAG HQD
          generalize w' = w7 at *
          refine wpList_nil ?_
          have O8a := O7
          obtain ⟨A5, n5, c5, rfl, hc5, hm5, hl5, _⟩ := O8a.out.out
          obtain ⟨_, _, _, _, _, s5, _⟩ := seg_cells K17.out
          rw [EA.out] at s5
          have c0 := P0.out
          have c1' := P1.out
          clear P0 P1
          go_wp2_with (at_builtin; refine appZ sgsEl #[.int .u8 (ko : Nat), .slice qA qn qc] rfl (ocs_one [(ko, ⟨qA, qn, qc, ql⟩)]) rfl (.tmp 46) (.tmp 52) rfl rfl (show w7.ownsRow w2.heap.size 45 2 (.slice A5 n5 c5) n5 (ocs (keptO k0 k1 g (lo.take i))) from by have h := O7.out; unfold OO at h; rwa [hl5.out] at h) rfl rfl (room_ge (by have := hws2.out; have := hl5.out; omega)) B7.out.size ?_)
          intro v8 w8 ho8 _ hb8
          have O8 := Lib.hid (show OO w8 w2.heap.size v8 (keptO k0 k1 g (lo.take (i + 1))) from by
            unfold OO
            rw [keptO_yes HP.out (goodW_yes HY.out), List.length_append, ocs_append, hl5.out]
            exact ho8)
          have B8 := Lib.hid (B7.out.trans hb8)
          clear O7 O8a B7 ho8 hb8 s5 c0 c1' K07 K17
          go_wp2_with fail
          go_roundw
          case rel => exact ⟨i + 1, by have := HLT.out; omega, by go_num, O8, B8⟩
          case measure => have := HLT.out; simp [intOf]; omega
        · have HQD := Lib.hid (show ((t : Int) == (tg : Int)) = false from by simp; omega)
          have HKE := Lib.hid (show keptO k0 k1 g (lo.take (i + 1)) = keptO k0 k1 g (lo.take i) from keptO_no HP.out (goodW_no fun y hy => by
            obtain ⟨_, e2, e3⟩ := hy
            have e4 := (e2.one HWI.out).2.2.2.2
            exact hq (by rw [← e4, e3, HTG.out])))
          clear hq HWI HTG
          refine GH.wp_ghl (M := false) 21 ((GH.SP.eq (.bool true)) :: (GH.SP.eq (.bool true)) :: (GH.SP.eq (.pointer (some ⟨x, 4, none⟩))) :: (GH.SP.eq (.int .u64 (t : Nat))) :: (GH.SP.eq (.agg #[.int .u64 (k0 : Nat), .int .u64 (k1 : Nat)])) :: (GH.SP.eq (.agg #[.int .u16 (g.src : Int), .int .u16 (g.dst : Int), .int .u32 (g.seq : Int), .int .u32 (g.ack : Int), .int .u8 (g.flags : Int), .slice A1 n1 c1, .slice D m d])) :: (GH.SP.eq (.pointer (some ⟨w.heap.size + 1, 5, none⟩))) :: (GH.SP.eq (.slice A1 n1 c1)) :: (GH.SP.eq (.int .i64 (i : Nat))) :: (GH.SP.eq (.pointer (some ⟨ab, ao + i * 2, none⟩))) :: (GH.SP.eq (.pointer (some ⟨ab, ao + i * 2, none⟩))) :: (GH.SP.eq (.int .u8 (ko : Nat))) :: (GH.SP.eq (.pointer (some ⟨w.heap.size + 1, 5, none⟩))) :: (GH.SP.eq (.slice A1 n1 c1)) :: (GH.SP.eq (.int .i64 (i : Nat))) :: (GH.SP.eq (.pointer (some ⟨ab, ao + i * 2, none⟩))) :: (GH.SP.eq (.pointer (some ⟨ab, ao + i * 2 + 1, none⟩))) :: (GH.SP.eq (.slice qA qn qc)) :: (GH.SP.eq (.int .u64 (tg : Nat))) :: (GH.SP.eq (.bool false)) :: (GH.SP.eq (.bool false)) :: []) (none :: none :: none :: none :: none :: none :: none :: none :: none :: none :: none :: none :: none :: none :: none :: none :: none :: none :: none :: none :: none :: none :: none :: none :: none :: (some 0) :: (some 1) :: (some 2) :: (some 3) :: (some 4) :: (some 5) :: (some 6) :: (some 7) :: (some 8) :: (some 9) :: (some 10) :: (some 11) :: (some 12) :: (some 13) :: (some 14) :: (some 15) :: (some 16) :: (some 17) :: (some 18) :: (some 19) :: (some 20) :: none :: none :: none :: none :: none :: none :: none :: none :: none :: []) [25, 26, 27, 28, 29, 30, 31, 32, 33, 34, 35, 36, 37, 38, 39, 40, 41, 42, 43, 44, 45] (by rfl) (by kernel_rfl) (by kernel_rfl) ?_ ?_ ?_
          · intro S jx v hjx
            match jx, hjx with
            | 0, _ => rfl
            | 1, _ => rfl
            | 2, _ => rfl
            | 3, _ => rfl
            | 4, _ => rfl
            | 5, _ => rfl
            | 6, _ => rfl
            | 7, _ => rfl
            | 8, _ => rfl
            | 9, _ => rfl
            | 10, _ => rfl
            | 11, _ => rfl
            | 12, _ => rfl
            | 13, _ => rfl
            | 14, _ => rfl
            | 15, _ => rfl
            | 16, _ => rfl
            | 17, _ => rfl
            | 18, _ => rfl
            | 19, _ => rfl
            | 20, _ => rfl
            | nx + 21, hjx => omega
          · intro jx hjx S w' hb hd
            match jx, hjx, hd with
            | 0, _, hd =>
              simp only [GH.mkL, List.getD_cons_succ, List.getD_cons_zero]
              clear hd
              refine GH.st_eq (by rfl) ?_
              go_simp
              (try with_reducible rfl)
            | 1, _, hd =>
              simp only [GH.mkL, List.getD_cons_succ, List.getD_cons_zero]
              have d0 : S 0 = .bool true := (hd 0 (by kernel_rfl)).2
              rw [d0]
              clear d0
              clear hd
              refine GH.st_eq (by rfl) ?_
              go_simp
              (try with_reducible rfl)
            | 2, _, hd =>
              simp only [GH.mkL, List.getD_cons_succ, List.getD_cons_zero]
              have d1 : S 1 = .bool true := (hd 1 (by kernel_rfl)).2
              rw [d1]
              clear d1
              clear hd
              refine GH.st_eq (by rfl) ?_
              go_simp
              (try with_reducible rfl)
            | 3, _, hd =>
              simp only [GH.mkL, List.getD_cons_succ, List.getD_cons_zero]
              have d1 : S 1 = .bool true := (hd 1 (by kernel_rfl)).2
              rw [d1]
              clear d1
              have d2 : S 2 = .pointer (some ⟨x, 4, none⟩) := (hd 2 (by kernel_rfl)).2
              rw [d2]
              clear d2
              clear hd
              exact GH.st_load _ (by rfl) rfl rfl (((KD.out.below hb.below KD.out.lt)).cell 4) (by kernel_rfl)
            | 4, _, hd =>
              simp only [GH.mkL, List.getD_cons_succ, List.getD_cons_zero]
              have d1 : S 1 = .bool true := (hd 1 (by kernel_rfl)).2
              rw [d1]
              clear d1
              clear hd
              exact GH.st_loads _ [.int .u64 (k0 : Nat), .int .u64 (k1 : Nat)] (by rfl) rfl rfl (((K06.out.below hb.below K06.out.lt)).loads 0 _ (by rfl)) (by kernel_rfl) (by kernel_rfl)
            | 5, _, hd =>
              simp only [GH.mkL, List.getD_cons_succ, List.getD_cons_zero]
              have d1 : S 1 = .bool true := (hd 1 (by kernel_rfl)).2
              rw [d1]
              clear d1
              clear hd
              exact GH.st_loads _ [.int .u16 (g.src : Int), .int .u16 (g.dst : Int), .int .u32 (g.seq : Int), .int .u32 (g.ack : Int), .int .u8 (g.flags : Int), .slice A1 n1 c1, .slice D m d] (by rfl) rfl rfl (((K16.out.below hb.below K16.out.lt)).loads 0 _ (by rfl)) (by kernel_rfl) (by kernel_rfl)
            | 6, _, hd =>
              simp only [GH.mkL, List.getD_cons_succ, List.getD_cons_zero]
              have d1 : S 1 = .bool true := (hd 1 (by kernel_rfl)).2
              rw [d1]
              clear d1
              clear hd
              refine GH.st_eq (by rfl) ?_
              go_simp
              (try with_reducible rfl)
            | 7, _, hd =>
              simp only [GH.mkL, List.getD_cons_succ, List.getD_cons_zero]
              have d1 : S 1 = .bool true := (hd 1 (by kernel_rfl)).2
              rw [d1]
              clear d1
              have d6 : S 6 = .pointer (some ⟨w.heap.size + 1, 5, none⟩) := (hd 6 (by kernel_rfl)).2
              rw [d6]
              clear d6
              clear hd
              exact GH.st_load _ (by rfl) rfl rfl (((K16.out.below hb.below K16.out.lt)).cell 5) (by kernel_rfl)
            | 8, _, hd =>
              simp only [GH.mkL, List.getD_cons_succ, List.getD_cons_zero]
              have d1 : S 1 = .bool true := (hd 1 (by kernel_rfl)).2
              rw [d1]
              clear d1
              clear hd
              refine GH.st_eq (by rfl) ?_
              go_simp
              (try with_reducible rfl)
            | 9, _, hd =>
              simp only [GH.mkL, List.getD_cons_succ, List.getD_cons_zero]
              have d1 : S 1 = .bool true := (hd 1 (by kernel_rfl)).2
              rw [d1]
              clear d1
              have d7 : S 7 = .slice A1 n1 c1 := (hd 7 (by kernel_rfl)).2
              rw [d7]
              clear d7
              have d8 : S 8 = .int .i64 (i : Nat) := (hd 8 (by kernel_rfl)).2
              rw [d8]
              clear d8
              clear hd
              refine GH.st_eq (by rfl) ?_
              rw [EA.out]
              go_simp
              (try with_reducible rfl)
            | 10, _, hd =>
              simp only [GH.mkL, List.getD_cons_succ, List.getD_cons_zero]
              have d1 : S 1 = .bool true := (hd 1 (by kernel_rfl)).2
              rw [d1]
              clear d1
              have d9 : S 9 = .pointer (some ⟨ab, ao + i * 2, none⟩) := (hd 9 (by kernel_rfl)).2
              rw [d9]
              clear d9
              clear hd
              refine GH.st_eq (by rfl) ?_
              go_simp
              (try with_reducible rfl)
            | 11, _, hd =>
              simp only [GH.mkL, List.getD_cons_succ, List.getD_cons_zero]
              have d1 : S 1 = .bool true := (hd 1 (by kernel_rfl)).2
              rw [d1]
              clear d1
              have d10 : S 10 = .pointer (some ⟨ab, ao + i * 2, none⟩) := (hd 10 (by kernel_rfl)).2
              rw [d10]
              clear d10
              clear hd
              exact GH.st_load _ (by rfl) rfl rfl (hb.at_ hab P0.out) (by kernel_rfl)
            | 12, _, hd =>
              simp only [GH.mkL, List.getD_cons_succ, List.getD_cons_zero]
              have d1 : S 1 = .bool true := (hd 1 (by kernel_rfl)).2
              rw [d1]
              clear d1
              clear hd
              refine GH.st_eq (by rfl) ?_
              go_simp
              (try with_reducible rfl)
            | 13, _, hd =>
              simp only [GH.mkL, List.getD_cons_succ, List.getD_cons_zero]
              have d1 : S 1 = .bool true := (hd 1 (by kernel_rfl)).2
              rw [d1]
              clear d1
              have d12 : S 12 = .pointer (some ⟨w.heap.size + 1, 5, none⟩) := (hd 12 (by kernel_rfl)).2
              rw [d12]
              clear d12
              clear hd
              exact GH.st_load _ (by rfl) rfl rfl (((K16.out.below hb.below K16.out.lt)).cell 5) (by kernel_rfl)
            | 14, _, hd =>
              simp only [GH.mkL, List.getD_cons_succ, List.getD_cons_zero]
              have d1 : S 1 = .bool true := (hd 1 (by kernel_rfl)).2
              rw [d1]
              clear d1
              clear hd
              refine GH.st_eq (by rfl) ?_
              go_simp
              (try with_reducible rfl)
            | 15, _, hd =>
              simp only [GH.mkL, List.getD_cons_succ, List.getD_cons_zero]
              have d1 : S 1 = .bool true := (hd 1 (by kernel_rfl)).2
              rw [d1]
              clear d1
              have d13 : S 13 = .slice A1 n1 c1 := (hd 13 (by kernel_rfl)).2
              rw [d13]
              clear d13
              have d14 : S 14 = .int .i64 (i : Nat) := (hd 14 (by kernel_rfl)).2
              rw [d14]
              clear d14
              clear hd
              refine GH.st_eq (by rfl) ?_
              rw [EA.out]
              go_simp
              (try with_reducible rfl)
            | 16, _, hd =>
              simp only [GH.mkL, List.getD_cons_succ, List.getD_cons_zero]
              have d1 : S 1 = .bool true := (hd 1 (by kernel_rfl)).2
              rw [d1]
              clear d1
              have d15 : S 15 = .pointer (some ⟨ab, ao + i * 2, none⟩) := (hd 15 (by kernel_rfl)).2
              rw [d15]
              clear d15
              clear hd
              refine GH.st_eq (by rfl) ?_
              go_simp
              (try with_reducible rfl)
            | 17, _, hd =>
              simp only [GH.mkL, List.getD_cons_succ, List.getD_cons_zero]
              have d1 : S 1 = .bool true := (hd 1 (by kernel_rfl)).2
              rw [d1]
              clear d1
              have d16 : S 16 = .pointer (some ⟨ab, ao + i * 2 + 1, none⟩) := (hd 16 (by kernel_rfl)).2
              rw [d16]
              clear d16
              clear hd
              exact GH.st_load _ (by rfl) rfl rfl (hb.at_ hab P1.out) (by kernel_rfl)
            | 18, _, hd =>
              simp only [GH.mkL, List.getD_cons_succ, List.getD_cons_zero]
              have d1 : S 1 = .bool true := (hd 1 (by kernel_rfl)).2
              rw [d1]
              clear d1
              have d4 : S 4 = .agg #[.int .u64 (k0 : Nat), .int .u64 (k1 : Nat)] := (hd 4 (by kernel_rfl)).2
              rw [d4]
              clear d4
              have d5 : S 5 = .agg #[.int .u16 (g.src : Int), .int .u16 (g.dst : Int), .int .u32 (g.seq : Int), .int .u32 (g.ack : Int), .int .u8 (g.flags : Int), .slice A1 n1 c1, .slice D m d] := (hd 5 (by kernel_rfl)).2
              rw [d5]
              clear d5
              have d11 : S 11 = .int .u8 (ko : Nat) := (hd 11 (by kernel_rfl)).2
              rw [d11]
              clear d11
              have d17 : S 17 = .slice qA qn qc := (hd 17 (by kernel_rfl)).2
              rw [d17]
              clear d17
              clear hd
              refine GH.st_call (by rfl) hb.below.size (by go_simp) ((HTAG.out w' (HC6.out.gr hb)).mono ?_)
              rintro e w9 ⟨rfl, hb9⟩
              exact ⟨_, rfl, hb9, rfl⟩
            | 19, _, hd =>
              simp only [GH.mkL, List.getD_cons_succ, List.getD_cons_zero]
              have d1 : S 1 = .bool true := (hd 1 (by kernel_rfl)).2
              rw [d1]
              clear d1
              have d3 : S 3 = .int .u64 (t : Nat) := (hd 3 (by kernel_rfl)).2
              rw [d3]
              clear d3
              have d18 : S 18 = .int .u64 (tg : Nat) := (hd 18 (by kernel_rfl)).2
              rw [d18]
              clear d18
              clear hd
              refine GH.st_eq (by rfl) ?_
              have hqd := HQD.out
              go_simp
              (try with_reducible rfl)
            | 20, _, hd =>
              simp only [GH.mkL, List.getD_cons_succ, List.getD_cons_zero]
              have d1 : S 1 = .bool true := (hd 1 (by kernel_rfl)).2
              rw [d1]
              clear d1
              have d19 : S 19 = .bool false := (hd 19 (by kernel_rfl)).2
              rw [d19]
              clear d19
              clear hd
              refine GH.st_eq (by rfl) ?_
              go_simp
              (try with_reducible rfl)
            | nx + 21, hjx, _ => omega
          intro S w' hb hG
          simp only [GH.mkL, List.drop_succ_cons, List.drop_zero]
          have d20 : S 20 = .bool false := hG 20 (by omega)
          rw [d20]
          clear d20
          clear hG
          have hb7 : Below w6.heap.size w6 w' := hb.below
          have K07 := Lib.hid (K06.out.below hb7 K06.out.lt)
          have K17 := Lib.hid (K16.out.below hb7 K16.out.lt)
          have O7 := Lib.hid (O6.out.below hb7)
          have B7 := Lib.hid (B6.out.trans (hb7.mono B6.out.size))
          replace P0 := Lib.hid ((hb7.cell (p := ⟨ab, ao + i * 2, none⟩) hab).trans P0.out)
          replace P1 := Lib.hid ((hb7.cell (p := ⟨ab, ao + i * 2 + 1, none⟩) hab).trans P1.out)
          clear KD B6 hb7 K06 K16 HC6 O6 hb HTAG HQD
          generalize w' = w7 at *
          refine wpList_nil ?_
          go_wp2_with fail
          go_roundw
          case rel => exact ⟨i + 1, by have := HLT.out; omega, by go_num, by rw [HKE.out]; exact O7, B7⟩
          case measure => have := HLT.out; simp [intOf]; omega
      · have hbD : Below w5.heap.size w5 (w5.alloc (.cells #[.int .u32 0, .int .u8 0, .int .u8 0, .bool false, .int .u64 0] 61)) := (Below.refl w5.heap.size w5).alloc (Nat.le_refl _) _
        have hb6 := hb5.trans (hbD.mono hb5.size)
        have O6 := Lib.hid (hown.out.below hb6)
        have B6 := Lib.hid (hbw.out.trans (hb6.mono hbw.out.size))
        have HKE := Lib.hid (show keptO k0 k1 g (lo.take (i + 1)) = keptO k0 k1 g (lo.take i) from keptO_no HP.out (goodW_no fun y hy => hno _ _ _ _ _ hy.2.1))
        obtain ⟨x, hX⟩ : ∃ x, x = w5.heap.size := ⟨_, rfl⟩
        clear hbD hb6 hb5 K0 KSr HC hown hbw Q0 Q1 c0 c1' s5 hno
        go_upto_region 6 with fail
        rw [← hX]
        clear hX
        generalize w5.alloc (.cells #[.int .u32 0, .int .u8 0, .int .u8 0, .bool false, .int .u64 0] 61) = w6 at *
        refine GH.wp_ghl (M := false) 21 ((GH.SP.eq (.bool false)) :: (GH.SP.eq (.bool false)) :: (GH.SP.eq (undef)) :: (GH.SP.eq (undef)) :: (GH.SP.eq (undef)) :: (GH.SP.eq (undef)) :: (GH.SP.eq (undef)) :: (GH.SP.eq (undef)) :: (GH.SP.eq (undef)) :: (GH.SP.eq (undef)) :: (GH.SP.eq (undef)) :: (GH.SP.eq (undef)) :: (GH.SP.eq (undef)) :: (GH.SP.eq (undef)) :: (GH.SP.eq (undef)) :: (GH.SP.eq (undef)) :: (GH.SP.eq (undef)) :: (GH.SP.eq (undef)) :: (GH.SP.eq (undef)) :: (GH.SP.eq (undef)) :: (GH.SP.eq (.bool false)) :: []) (none :: none :: none :: none :: none :: none :: none :: none :: none :: none :: none :: none :: none :: none :: none :: none :: none :: none :: none :: none :: none :: none :: none :: none :: none :: (some 0) :: (some 1) :: (some 2) :: (some 3) :: (some 4) :: (some 5) :: (some 6) :: (some 7) :: (some 8) :: (some 9) :: (some 10) :: (some 11) :: (some 12) :: (some 13) :: (some 14) :: (some 15) :: (some 16) :: (some 17) :: (some 18) :: (some 19) :: (some 20) :: none :: none :: none :: none :: none :: none :: none :: none :: none :: []) [25, 26, 27, 28, 29, 30, 31, 32, 33, 34, 35, 36, 37, 38, 39, 40, 41, 42, 43, 44, 45] (by rfl) (by kernel_rfl) (by kernel_rfl) ?_ ?_ ?_
        · intro S jx v hjx
          match jx, hjx with
          | 0, _ => rfl
          | 1, _ => rfl
          | 2, _ => rfl
          | 3, _ => rfl
          | 4, _ => rfl
          | 5, _ => rfl
          | 6, _ => rfl
          | 7, _ => rfl
          | 8, _ => rfl
          | 9, _ => rfl
          | 10, _ => rfl
          | 11, _ => rfl
          | 12, _ => rfl
          | 13, _ => rfl
          | 14, _ => rfl
          | 15, _ => rfl
          | 16, _ => rfl
          | 17, _ => rfl
          | 18, _ => rfl
          | 19, _ => rfl
          | 20, _ => rfl
          | nx + 21, hjx => omega
        · intro jx hjx S w' hb hd
          match jx, hjx, hd with
          | 0, _, hd =>
            simp only [GH.mkL, List.getD_cons_succ, List.getD_cons_zero]
            clear hd
            refine GH.st_eq (by rfl) ?_
            go_simp
            (try with_reducible rfl)
          | 1, _, hd =>
            simp only [GH.mkL, List.getD_cons_succ, List.getD_cons_zero]
            have d0 : S 0 = .bool false := (hd 0 (by kernel_rfl)).2
            rw [d0]
            clear d0
            clear hd
            refine GH.st_eq (by rfl) ?_
            go_simp
            (try with_reducible rfl)
          | 2, _, hd =>
            simp only [GH.mkL, List.getD_cons_succ, List.getD_cons_zero]
            have d1 : S 1 = .bool false := (hd 1 (by kernel_rfl)).2
            rw [d1]
            clear d1
            clear hd
            exact GH.st_skip (by rfl) rfl
          | 3, _, hd =>
            simp only [GH.mkL, List.getD_cons_succ, List.getD_cons_zero]
            have d1 : S 1 = .bool false := (hd 1 (by kernel_rfl)).2
            rw [d1]
            clear d1
            have d2 : S 2 = undef := (hd 2 (by kernel_rfl)).2
            rw [d2]
            clear d2
            clear hd
            exact GH.st_skip (by rfl) rfl
          | 4, _, hd =>
            simp only [GH.mkL, List.getD_cons_succ, List.getD_cons_zero]
            have d1 : S 1 = .bool false := (hd 1 (by kernel_rfl)).2
            rw [d1]
            clear d1
            clear hd
            exact GH.st_skip (by rfl) rfl
          | 5, _, hd =>
            simp only [GH.mkL, List.getD_cons_succ, List.getD_cons_zero]
            have d1 : S 1 = .bool false := (hd 1 (by kernel_rfl)).2
            rw [d1]
            clear d1
            clear hd
            exact GH.st_skip (by rfl) rfl
          | 6, _, hd =>
            simp only [GH.mkL, List.getD_cons_succ, List.getD_cons_zero]
            have d1 : S 1 = .bool false := (hd 1 (by kernel_rfl)).2
            rw [d1]
            clear d1
            clear hd
            exact GH.st_skip (by rfl) rfl
          | 7, _, hd =>
            simp only [GH.mkL, List.getD_cons_succ, List.getD_cons_zero]
            have d1 : S 1 = .bool false := (hd 1 (by kernel_rfl)).2
            rw [d1]
            clear d1
            have d6 : S 6 = undef := (hd 6 (by kernel_rfl)).2
            rw [d6]
            clear d6
            clear hd
            exact GH.st_skip (by rfl) rfl
          | 8, _, hd =>
            simp only [GH.mkL, List.getD_cons_succ, List.getD_cons_zero]
            have d1 : S 1 = .bool false := (hd 1 (by kernel_rfl)).2
            rw [d1]
            clear d1
            clear hd
            exact GH.st_skip (by rfl) rfl
          | 9, _, hd =>
            simp only [GH.mkL, List.getD_cons_succ, List.getD_cons_zero]
            have d1 : S 1 = .bool false := (hd 1 (by kernel_rfl)).2
            rw [d1]
            clear d1
            have d7 : S 7 = undef := (hd 7 (by kernel_rfl)).2
            rw [d7]
            clear d7
            have d8 : S 8 = undef := (hd 8 (by kernel_rfl)).2
            rw [d8]
            clear d8
            clear hd
            exact GH.st_skip (by rfl) rfl
          | 10, _, hd =>
            simp only [GH.mkL, List.getD_cons_succ, List.getD_cons_zero]
            have d1 : S 1 = .bool false := (hd 1 (by kernel_rfl)).2
            rw [d1]
            clear d1
            have d9 : S 9 = undef := (hd 9 (by kernel_rfl)).2
            rw [d9]
            clear d9
            clear hd
            exact GH.st_skip (by rfl) rfl
          | 11, _, hd =>
            simp only [GH.mkL, List.getD_cons_succ, List.getD_cons_zero]
            have d1 : S 1 = .bool false := (hd 1 (by kernel_rfl)).2
            rw [d1]
            clear d1
            have d10 : S 10 = undef := (hd 10 (by kernel_rfl)).2
            rw [d10]
            clear d10
            clear hd
            exact GH.st_skip (by rfl) rfl
          | 12, _, hd =>
            simp only [GH.mkL, List.getD_cons_succ, List.getD_cons_zero]
            have d1 : S 1 = .bool false := (hd 1 (by kernel_rfl)).2
            rw [d1]
            clear d1
            clear hd
            exact GH.st_skip (by rfl) rfl
          | 13, _, hd =>
            simp only [GH.mkL, List.getD_cons_succ, List.getD_cons_zero]
            have d1 : S 1 = .bool false := (hd 1 (by kernel_rfl)).2
            rw [d1]
            clear d1
            have d12 : S 12 = undef := (hd 12 (by kernel_rfl)).2
            rw [d12]
            clear d12
            clear hd
            exact GH.st_skip (by rfl) rfl
          | 14, _, hd =>
            simp only [GH.mkL, List.getD_cons_succ, List.getD_cons_zero]
            have d1 : S 1 = .bool false := (hd 1 (by kernel_rfl)).2
            rw [d1]
            clear d1
            clear hd
            exact GH.st_skip (by rfl) rfl
          | 15, _, hd =>
            simp only [GH.mkL, List.getD_cons_succ, List.getD_cons_zero]
            have d1 : S 1 = .bool false := (hd 1 (by kernel_rfl)).2
            rw [d1]
            clear d1
            have d13 : S 13 = undef := (hd 13 (by kernel_rfl)).2
            rw [d13]
            clear d13
            have d14 : S 14 = undef := (hd 14 (by kernel_rfl)).2
            rw [d14]
            clear d14
            clear hd
            exact GH.st_skip (by rfl) rfl
          | 16, _, hd =>
            simp only [GH.mkL, List.getD_cons_succ, List.getD_cons_zero]
            have d1 : S 1 = .bool false := (hd 1 (by kernel_rfl)).2
            rw [d1]
            clear d1
            have d15 : S 15 = undef := (hd 15 (by kernel_rfl)).2
            rw [d15]
            clear d15
            clear hd
            exact GH.st_skip (by rfl) rfl
          | 17, _, hd =>
            simp only [GH.mkL, List.getD_cons_succ, List.getD_cons_zero]
            have d1 : S 1 = .bool false := (hd 1 (by kernel_rfl)).2
            rw [d1]
            clear d1
            have d16 : S 16 = undef := (hd 16 (by kernel_rfl)).2
            rw [d16]
            clear d16
            clear hd
            exact GH.st_skip (by rfl) rfl
          | 18, _, hd =>
            simp only [GH.mkL, List.getD_cons_succ, List.getD_cons_zero]
            have d1 : S 1 = .bool false := (hd 1 (by kernel_rfl)).2
            rw [d1]
            clear d1
            have d4 : S 4 = undef := (hd 4 (by kernel_rfl)).2
            rw [d4]
            clear d4
            have d5 : S 5 = undef := (hd 5 (by kernel_rfl)).2
            rw [d5]
            clear d5
            have d11 : S 11 = undef := (hd 11 (by kernel_rfl)).2
            rw [d11]
            clear d11
            have d17 : S 17 = undef := (hd 17 (by kernel_rfl)).2
            rw [d17]
            clear d17
            clear hd
            exact GH.st_skip (by rfl) rfl
          | 19, _, hd =>
            simp only [GH.mkL, List.getD_cons_succ, List.getD_cons_zero]
            have d1 : S 1 = .bool false := (hd 1 (by kernel_rfl)).2
            rw [d1]
            clear d1
            have d3 : S 3 = undef := (hd 3 (by kernel_rfl)).2
            rw [d3]
            clear d3
            have d18 : S 18 = undef := (hd 18 (by kernel_rfl)).2
            rw [d18]
            clear d18
            clear hd
            exact GH.st_skip (by rfl) rfl
          | 20, _, hd =>
            simp only [GH.mkL, List.getD_cons_succ, List.getD_cons_zero]
            have d1 : S 1 = .bool false := (hd 1 (by kernel_rfl)).2
            rw [d1]
            clear d1
            have d19 : S 19 = undef := (hd 19 (by kernel_rfl)).2
            rw [d19]
            clear d19
            clear hd
            refine GH.st_eq (by rfl) ?_
            go_simp
            (try with_reducible rfl)
          | nx + 21, hjx, _ => omega
        intro S w' hb hG
        simp only [GH.mkL, List.drop_succ_cons, List.drop_zero]
        have d20 : S 20 = .bool false := hG 20 (by omega)
        rw [d20]
        clear d20
        clear hG
        have hb7 : Below w6.heap.size w6 w' := hb.below
        have O7 := Lib.hid (O6.out.below hb7)
        have B7 := Lib.hid (B6.out.trans (hb7.mono B6.out.size))
        clear O6 B6 hb7 hb
        generalize w' = w7 at *
        refine wpList_nil ?_
        go_wp2_with fail
        go_roundw
        case rel => exact ⟨i + 1, by have := HLT.out; omega, by go_num, by rw [HKE.out]; exact O7, B7⟩
        case measure => have := HLT.out; simp [intOf]; omega
    · obtain rfl : n1 = i := by omega
      have hall : lo.take n1 = lo := List.take_of_length_le (by rw [HGL.out]; exact Nat.le_refl _)
      have hW := hown.out
      rw [hall] at hW
      have HW := Lib.hid hW
      have BF := Lib.hid (b1.out.trans (hbw.out.mono b1.out.size))
      obtain ⟨A5, n5, c5, rfl, hc5, hm5, hl5, _⟩ := HW.out.out
      have HF := Lib.hid (HW.out.os HO.out hbw.out (fun p hp => (List.mem_filter.1 hp).1))
      clear hW hall hbw
      go_wp2_with fail
      go_ret
      exact ⟨⟨_, _, _, _, rfl, HF.out, by rw [keptO_say, HOS.out]⟩, BF.out⟩
end Go.Proofs.Ytbiimgfocgbdaaa
