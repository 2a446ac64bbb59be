/- Segments in memory; how many bytes options take, and which error a segment has. -/
import Derived.Test.YtiabafnfiedlcaaSgM
import Derived.Test.YtiabafnfiedlcaaOpenG
import Derived.Test.YtiabafnfiedlcaaPk5
import Derived.Test.YtiabafnfiedlcaaBlkS
namespace Go.Proofs.Ytiabafnfiedlcaa
open Go.RowKit
set_option linter.unusedVariables false
/-- Options as cells: kinds, and the slices of their bodies. -/
abbrev Ob := Nat × Body
def oel (p : Ob) : List Value := [.int .u8 (p.1 : Int), .slice p.2.A p.2.n p.2.c]
def ocs (l : List Ob) : List Value := l.flatMap oel
theorem ocs_cons (p : Ob) (l : List Ob) : ocs (p :: l) = .int .u8 (p.1 : Int) :: .slice p.2.A p.2.n p.2.c :: ocs l := rfl
theorem ocs_append (l m : List Ob) : ocs (l ++ m) = ocs l ++ ocs m := by simp [ocs]
theorem ocs_len (l : List Ob) : (ocs l).length = l.length * 2 := by
  induction l with
  | nil => rfl
  | cons p l ih => rw [ocs_cons, List.length_cons, List.length_cons, ih, List.length_cons]; omega
theorem ocs_get {l : List Ob} {i : Nat} {p : Ob} (h : l[i]? = some p) : (ocs l)[i * 2]? = some (.int .u8 (p.1 : Int)) ∧ (ocs l)[i * 2 + 1]? = some (.slice p.2.A p.2.n p.2.c) := by
  induction l generalizing i with
  | nil => simp at h
  | cons q l ih =>
    cases i with
    | zero => simp at h; subst h; exact ⟨rfl, rfl⟩
    | succ i =>
      have := ih (i := i) (by simpa using h)
      rw [show (i + 1) * 2 = i * 2 + 1 + 1 by omega, ocs_cons, List.getElem?_cons_succ, List.getElem?_cons_succ, List.getElem?_cons_succ, List.getElem?_cons_succ]
      exact this
theorem ocs_one (l : List Ob) : ∀ v ∈ ocs l, v.oneCell' = true := by
  intro v hv
  simp only [ocs, oel, List.mem_flatMap] at hv
  obtain ⟨p, _, hv⟩ := hv
  simp at hv
  rcases hv with rfl | rfl <;> rfl
/-- What they say. -/
def osay (l : List Ob) : List Opn := l.map fun p => (p.1, p.2.l)
/-- Options that can be read in a world. -/
structure Os (w : World) (A : Option Addr) (n c : Nat) (l : List Ob) : Prop where
  row : Rd w w.heap.size 2 A n (ocs l)
  bod : ∀ p ∈ l, Rd w w.heap.size 1 p.2.A p.2.n (ns .u8 p.2.l) ∧ p.2.n ≤ p.2.c ∧ p.2.c ≤ maxLen
  cap : n ≤ c ∧ c ≤ maxLen
theorem Os.nil (w : World) : Os w none 0 0 [] := ⟨Rd.nil _ _ _ _, by simp, Nat.le_refl _, Nat.zero_le _⟩
theorem Os.into {w w' : World} {A : Option Addr} {n c : Nat} {l : List Ob} (h : Os w A n c l) (hb : Below w.heap.size w w') : Os w' A n c l :=
  ⟨h.row.into hb, fun p hp => ⟨(h.bod p hp).1.into hb, (h.bod p hp).2⟩, h.cap⟩
theorem Os.len {w : World} {A : Option Addr} {n c : Nat} {l : List Ob} (h : Os w A n c l) : l.length = n := by have := h.row.1; rw [ocs_len] at this; omega
/-- An option, by a name of its own. -/
theorem Os.at_ {w : World} {A : Option Addr} {n c : Nat} {l : List Ob} (h : Os w A n c l) {i : Nat} (hi : i < n) :
    ∃ (b off k : Nat) (q : Body), A = some ⟨b, off, none⟩ ∧ b < w.heap.size ∧ w.cell? ⟨b, off + i * 2, none⟩ = some (.int .u8 (k : Int)) ∧ w.cell? ⟨b, off + i * 2 + 1, none⟩ = some (.slice q.A q.n q.c) ∧ Hid (l[i]? = some (k, q)) ∧ Hid (Rd w w.heap.size 1 q.A q.n (ns .u8 q.l)) ∧ Hid (q.l.length = q.n) := by
  obtain ⟨b, off, e, hb, hc⟩ := h.row.2 (by omega)
  have hl := h.len
  have hg : l[i]? = some l[i] := List.getElem?_eq_getElem (by omega)
  obtain ⟨g1, g2⟩ := ocs_get hg
  have hbd := h.bod l[i] (List.getElem_mem _)
  exact ⟨b, off, l[i].1, l[i].2, e, hb, (hc (i * 2) (by omega)).trans g1, (Nat.add_assoc off (i * 2) 1 ▸ hc (i * 2 + 1) (by omega)).trans g2, Lib.hid hg, Lib.hid hbd.1, Lib.hid hbd.1.natLen⟩
/-- A segment that can be read. -/
def segCs (g : Sg) (A : Option Addr) (n c : Nat) (D : Option Addr) (m d : Nat) : Array Value :=
  #[.int .u16 (g.src : Int), .int .u16 (g.dst : Int), .int .u32 (g.seq : Int), .int .u32 (g.ack : Int), .int .u8 (g.flags : Int), .slice A n c, .slice D m d]
def SegV (w : World) (v : Value) (g : Sg) : Prop :=
  ∃ (A : Option Addr) (n c : Nat) (D : Option Addr) (m d : Nat) (l : List Ob), v = .agg (segCs g A n c D m d) ∧ Os w A n c l ∧ g.opts = osay l ∧ Rd w w.heap.size 1 D m (ns .u8 g.data) ∧ m ≤ d ∧ d ≤ maxLen
theorem SegV.into {w w' : World} {v : Value} {g : Sg} (h : SegV w v g) (hb : Below w.heap.size w w') : SegV w' v g := by
  obtain ⟨A, n, c, D, m, d, l, e, h1, h2, h3, h4⟩ := h
  exact ⟨A, n, c, D, m, d, l, e, h1.into hb, h2, h3.into hb, h4⟩
theorem SegV.zero (w : World) : SegV w (.agg (segCs zeroS none 0 0 none 0 0)) zeroS := ⟨none, 0, 0, none, 0, 0, [], rfl, Os.nil w, rfl, Rd.nil _ _ _ _, Nat.le_refl _, Nat.zero_le _⟩
/-- Not too much to be asked. -/
structure Sg.small (g : Sg) : Prop where
  opts : g.opts.length ≤ 10000
  bodies : ∀ p ∈ g.opts, p.2.length ≤ 10000
  data : g.data.length ≤ 10000
theorem osay_take (l : List Ob) (k : Nat) : osay (l.take k) = (osay l).take k := by simp [osay, List.map_take]
theorem osay_at {l : List Ob} {i k : Nat} {q : Body} (h : Hid (l[i]? = some (k, q))) : (osay l)[i]? = some (k, q.l) := by unfold osay; rw [List.getElem?_map, h.out]; rfl
/-- How many bytes; none, where they may not be. -/
def oAns (l : List Opn) : Int := if oOk l then (oSize l : Int) else 0
theorem oAns_ok {l : List Opn} (h : oOk l = true) : oAns l = (oSize l : Int) := if_pos h
theorem oAns_no {l : List Opn} (h : oOk l = false) : oAns l = 0 := if_neg (by rw [h]; exact Bool.false_ne_true)
set_option maxRecDepth 20000 in
set_option maxHeartbeats 1000000 in
theorem size_any (A : Option Addr) (n c : Nat) (l : List Ob) (w : World) (h : Os w A n c l) (hn : n ≤ 10000) (hb : ∀ p ∈ l, p.2.l.length ≤ 10000) :
    Calls Try.prog 67 #[.slice A n c] w fun e w' => e = .returned (.tuple #[.int .i64 (oAns (osay l)), .bool (oOk (osay l))]) ∧ Below w.heap.size w w' := by
  have HO := Lib.hid h
  have HB := Lib.hid hb
  have HL := Lib.hid h.len
  clear h hb
  go_enter Try.func67, Try.ntmps67
  go_wp2_with fail
  go_loopw [4, 9] (fun sv iv wr => ∃ (k s : Nat), k ≤ n ∧ iv = .int .i64 k ∧ sv = .int .i64 (s : Int) ∧ s ≤ 200 ∧ Hid (oSize ((osay l).take k) = s) ∧ Hid (∀ p ∈ (osay l).take k, p.1 ≠ 0) ∧ Below w.heap.size w wr) (fun _ iv _ => n - (intOf iv).toNat)
  case atStart => exact ⟨0, 0, Nat.zero_le _, rfl, rfl, by omega, Lib.hid (by simp [oSize]), Lib.hid (by simp), Below.refl _ _⟩
  case round =>
    obtain ⟨k, s, hk, rfl, rfl, hs, hsz, hkd, hbw⟩ := hrel
    by_cases hlt : k < n
    · have hlt' : (k : Int) < (n : Int) := by omega
      obtain ⟨b, off, kd, q, rfl, hbb, p0, p1, hp, hq, hql⟩ := (HO.out.into hbw).at_ hlt
      have hp2 := osay_at hp
      have hlen := HB.out _ (List.mem_of_getElem? hp.out)
      dsimp only at hlen
      rw [hql.out] at hlen
      obtain ⟨qA, qn, qc, ql⟩ := q
      dsimp only at *
      obtain ⟨s2, hs2⟩ : ∃ s2, s2 = s + (2 + qn) := ⟨_, rfl⟩
      have hsn : oSize ((osay l).take (k + 1)) = s2 := by rw [nth_take (Lib.hid hp2), oSize_snoc, hsz.out, hs2, hql.out]
      have e2 : (s : Int) + (2 + (qn : Int)) = (s2 : Int) := by omega
      have hs2b : s2 ≤ 20000 := by omega
      have HP2 := Lib.hid hp2
      have HSN := Lib.hid hsn
      clear hs2 hsn hp2 hlen hp hq
      by_cases hk0 : kd = 0
      · subst hk0
        have hfin : oOk (osay l) = false := oOk_false HP2.out (.inl rfl)
        have HF := Lib.hid hfin
        clear hfin
        go_wp2_with fail
        go_ret2
        rw [HF.out, oAns_no HF.out]
        exact ⟨rfl, hbw.alloc hbw.size _⟩
      · have hk1 : ¬ (kd : Int) = 0 := by omega
        have hk2 : ((kd : Int) == 0) = false := beq_eq_false_iff_ne.2 hk1
        by_cases h200 : 200 < s2
        · have h200' : (200 : Int) < (s2 : Int) := by omega
          have hfin : oOk (osay l) = false := oOk_false HP2.out (.inr (by rw [HSN.out]; exact h200))
          have HF := Lib.hid hfin
          clear hfin
          go_wp2_with fail
          go_ret2
          rw [HF.out, oAns_no HF.out]
          exact ⟨rfl, hbw.alloc hbw.size _⟩
        · have h200' : ¬ (200 : Int) < (s2 : Int) := by omega
          have HKD : Hid (∀ p ∈ (osay l).take (k + 1), p.1 ≠ 0) := Lib.hid (by
            rw [nth_take (Lib.hid HP2.out)]
            intro p hp
            rcases List.mem_append.1 hp with hp | hp
            · exact hkd.out p hp
            · simp at hp; subst hp; exact hk0)
          go_wp2_with fail
          go_roundw
          case rel => exact ⟨k + 1, s2, by omega, by go_num, rfl, by omega, HSN, HKD, hbw.alloc hbw.size _⟩
          case measure => simp [intOf]; omega
    · have hge : ¬ (k : Int) < (n : Int) := by omega
      have hall : (osay l).take k = osay l := List.take_of_length_le (by unfold osay; rw [List.length_map, HL.out]; omega)
      have h1 := hsz.out
      have h2 := hkd.out
      rw [hall] at h1 h2
      have HF := Lib.hid ((oOk_iff (osay l)).2 ⟨h2, by omega⟩)
      have HS := Lib.hid h1
      clear hall h1 h2 hsz hkd
      go_wp2_with fail
      go_ret2
      rw [HF.out, oAns_ok HF.out, HS.out]
      exact ⟨rfl, hbw⟩
/-- A segment's own cells in a block. -/
theorem seg_cells {w : World} {T : Nat} {t : TypeId} {g : Sg} {A : Option Addr} {n c : Nat} {D : Option Addr} {m d : Nat} (h : Blk w T t (segCs g A n c D m d)) :
    w.cell? ⟨T, 0, none⟩ = some (.int .u16 (g.src : Int)) ∧ w.cell? ⟨T, 1, none⟩ = some (.int .u16 (g.dst : Int)) ∧ w.cell? ⟨T, 2, none⟩ = some (.int .u32 (g.seq : Int)) ∧ w.cell? ⟨T, 3, none⟩ = some (.int .u32 (g.ack : Int)) ∧ w.cell? ⟨T, 4, none⟩ = some (.int .u8 (g.flags : Int)) ∧ w.cell? ⟨T, 5, none⟩ = some (.slice A n c) ∧ w.cell? ⟨T, 6, none⟩ = some (.slice D m d) := by
  refine ⟨?_, ?_, ?_, ?_, ?_, ?_, ?_⟩ <;> (rw [h.cell]; rfl)
/-- A segment in a block of its own, and what it leads to. -/
structure SBox (w W : World) (T : Nat) (g : Sg) (A : Option Addr) (n c : Nat) (D : Option Addr) (m d : Nat) (l : List Ob) : Prop where
  blk : Blk W T 56 (segCs g A n c D m d)
  os : Os W A n c l
  say : g.opts = osay l
  dat : Rd W W.heap.size 1 D m (ns .u8 g.data)
  bel : Below w.heap.size w W
section
variable {w W W' : World} {T : Nat} {g : Sg} {A : Option Addr} {n c : Nat} {D : Option Addr} {m d : Nat} {l : List Ob}
theorem SBox.into (h : SBox w W T g A n c D m d l) (hb : Below W.heap.size W W') : SBox w W' T g A n c D m d l :=
  ⟨h.blk.below hb h.blk.lt, h.os.into hb, h.say, h.dat.into hb, h.bel.trans (hb.mono h.bel.size)⟩
theorem SBox.mk' (hO : Os w A n c l) (ho : g.opts = osay l) (hD : Rd w w.heap.size 1 D m (ns .u8 g.data)) : SBox w (w.alloc (.cells (segCs g A n c D m d) 56)) w.heap.size g A n c D m d l := by
  have hb0 : Below w.heap.size w (w.alloc (.cells (segCs g A n c D m d) 56)) := (Below.refl _ _).alloc (Nat.le_refl _) _
  exact ⟨Blk.new w 56 (segCs g A n c D m d), hO.into hb0, ho, hD.into hb0, hb0⟩
theorem SBox.olen (h : SBox w W T g A n c D m d l) : g.opts.length = n := by rw [h.say]; unfold osay; rw [List.length_map]; exact h.os.len
theorem SBox.dlen (h : SBox w W T g A n c D m d l) : g.data.length = m := h.dat.natLen
theorem SBox.bods (h : SBox w W T g A n c D m d l) (hs : g.small) : ∀ p ∈ l, p.2.l.length ≤ 10000 := fun p hp => hs.bodies (p.1, p.2.l) (by rw [h.say]; exact List.mem_map.2 ⟨p, hp, rfl⟩)
/-- The value that is loaded whole. -/
theorem SBox.val (h : SBox w W T g A n c D m d l) (hmd : m ≤ d) (hdm : d ≤ maxLen) : SegV W (.agg (segCs g A n c D m d)) g := ⟨A, n, c, D, m, d, l, rfl, h.os, h.say, h.dat, hmd, hdm⟩
end
theorem rightS_eq (g : Sg) : (7 < g.flags → rightS g = 70) ∧ (¬ 7 < g.flags → oOk g.opts = false → rightS g = 71) ∧ (¬ 7 < g.flags → oOk g.opts = true → 1024 < g.data.length → rightS g = 72) ∧ (¬ 7 < g.flags → oOk g.opts = true → ¬ 1024 < g.data.length → rightS g = 0) := by
  unfold rightS
  refine ⟨fun h => if_pos h, fun h1 h2 => by rw [if_neg h1, if_pos h2], fun h1 h2 h3 => by rw [if_neg h1, if_neg (by rw [h2]; simp), if_pos h3], fun h1 h2 h3 => by rw [if_neg h1, if_neg (by rw [h2]; simp), if_neg h3]⟩
set_option maxRecDepth 20000 in
set_option maxHeartbeats 1000000 in
theorem right_any (v : Value) (g : Sg) (w : World) (h : SegV w v g) (hs : g.small) :
    Calls Try.prog 33 #[v] w fun e w' => e = .returned (.int .i64 (rightS g : Int)) ∧ Below w.heap.size w w' := by
  obtain ⟨A, n, c, D, m, d, l, rfl, hO, ho, hD, hmd, hdm⟩ := h
  have hB := SBox.mk' (d := d) hO ho hD
  have HSB := Lib.hid hB
  have hn : n ≤ 10000 := by have h1 := hs.opts; rw [hB.olen] at h1; exact h1
  have HS := Lib.hid (size_any A n c l _ hB.os hn (hB.bods hs))
  obtain ⟨s0, s1, s2, s3, t4, t5, t6⟩ := seg_cells hB.blk
  have hdl := hB.dlen
  have hR := rightS_eq g
  rw [← ho] at HS
  rw [hdl] at hR
  clear hO hD hs hB s0 s1 s2 s3 ho hdl hmd hdm
  have HR := Lib.hid hR
  clear hR
  obtain ⟨r, hr⟩ : ∃ r, r = rightS g := ⟨_, rfl⟩
  obtain ⟨bk, hbk⟩ : ∃ bk, bk = oOk g.opts := ⟨_, rfl⟩
  rw [← hr, ← hbk] at HR
  rw [← hr]
  rw [← hbk] at HS
  clear hr hbk
  unfold segCs at *
  go_enter Try.func33, Try.ntmps33
  go_wp2_with fail
  generalize w.alloc (.cells #[.int .u16 (g.src : Int), .int .u16 (g.dst : Int), .int .u32 (g.seq : Int), .int .u32 (g.ack : Int), .int .u8 (g.flags : Int), .slice A n c, .slice D m d] 56) = W at *
  refine HS.out.mono ?_
  rintro e w1 ⟨rfl, hb1⟩
  have hT := HSB.out.blk.lt
  have q4 := (hb1.cell (p := ⟨w.heap.size, 4, none⟩) hT).trans t4
  have q6 := (hb1.cell (p := ⟨w.heap.size, 6, none⟩) hT).trans t6
  have HB1 := Lib.hid (HSB.out.bel.trans (hb1.mono (Nat.le_of_lt hT)))
  clear t4 t5 t6 hb1 HS hT HSB
  by_cases h7 : 7 < g.flags
  · have h7' : (7 : Int) < (g.flags : Int) := by omega
    have hr := HR.out.1 h7
    subst hr
    clear HR
    go_wp2_with fail
    go_ret
    exact ⟨rfl, HB1.out⟩
  · have h7' : ¬ (7 : Int) < (g.flags : Int) := by omega
    cases bk with
    | false =>
      have hr := HR.out.2.1 h7 rfl
      subst hr
      clear HR
      go_wp2_with fail
      go_ret
      exact ⟨rfl, HB1.out⟩
    | true =>
      by_cases hd : 1024 < m
      · have hd' : (1024 : Int) < (m : Int) := by omega
        have hr := HR.out.2.2.1 h7 rfl hd
        subst hr
        clear HR
        go_wp2_with fail
        go_ret
        exact ⟨rfl, HB1.out⟩
      · have hd' : ¬ (1024 : Int) < (m : Int) := by omega
        have hr := HR.out.2.2.2 h7 rfl hd
        subst hr
        clear HR
        go_wp2_with fail
        go_ret
        exact ⟨rfl, HB1.out⟩
set_option maxRecDepth 20000 in
set_option maxHeartbeats 1000000 in
theorem rright_any (v : Value) (g : Sg) (w : World) (h : SegV w v g) (hs : g.small) :
    Calls Try.prog 34 #[v] w fun e w' => e = .returned (.int .i64 (rightS g : Int)) ∧ Below w.heap.size w w' := by
  obtain ⟨A, n, c, D, m, d, l, rfl, hO, ho, hD, hmd, hdm⟩ := h
  have hB := SBox.mk' (d := d) hO ho hD
  have hn : n ≤ 10000 := by have h1 := hs.opts; rw [hB.olen] at h1; exact h1
  have HB := Lib.hid (hB.bods hs)
  have hR := rightS_eq g
  have HSAY := Lib.hid ho
  rw [hB.dlen] at hR
  have HSB := Lib.hid hB
  clear hO hD hs hB ho hmd hdm
  have HR := Lib.hid hR
  clear hR
  obtain ⟨r, hr⟩ : ∃ r, r = rightS g := ⟨_, rfl⟩
  rw [← hr] at HR
  rw [← hr]
  clear hr
  have t4 : (w.alloc (.cells (segCs g A n c D m d) 56)).cell? ⟨w.heap.size, 4, none⟩ = some (.int .u8 (g.flags : Int)) := (seg_cells HSB.out.blk).2.2.2.2.1
  unfold segCs at *
  go_enter Try.func34, Try.ntmps34
  by_cases h7 : 7 < g.flags
  · have h7' : (7 : Int) < (g.flags : Int) := by omega
    have hr := HR.out.1 h7
    subst hr
    clear HR
    go_wp2_with fail
    go_ret
    exact ⟨rfl, HSB.out.bel⟩
  · have h7' : ¬ (7 : Int) < (g.flags : Int) := by omega
    go_wp2_with fail
    generalize w.alloc (.cells #[.int .u16 (g.src : Int), .int .u16 (g.dst : Int), .int .u32 (g.seq : Int), .int .u32 (g.ack : Int), .int .u8 (g.flags : Int), .slice A n c, .slice D m d] 56) = W at *
    clear t4
    obtain ⟨_, _, _, _, _, t5, t6⟩ := seg_cells (show Blk W w.heap.size 56 (segCs g A n c D m d) from HSB.out.blk)
    go_loopw [3, 4] (fun sv iv wr => ∃ (k s : Nat), k ≤ n ∧ iv = .int .i64 k ∧ sv = .int .i64 (s : Int) ∧ s ≤ 200 + 257 ∧ Hid (oSize ((osay l).take k) = s) ∧ Hid (∀ p ∈ (osay l).take k, p.1 ≠ 0) ∧ wr = W) (fun _ iv _ => n - (intOf iv).toNat)
    case atStart => exact ⟨0, 0, Nat.zero_le _, rfl, rfl, by omega, Lib.hid (by simp [oSize]), Lib.hid (by simp), rfl⟩
    case round =>
      obtain ⟨k, s, hk, rfl, rfl, hs, hsz, hkd, rfl⟩ := hrel
      by_cases hlt : k < n
      · have hlt' : (k : Int) < (n : Int) := by omega
        obtain ⟨b, off, kd, q, rfl, hbb, p0, p1, hp, hq, hql⟩ := HSB.out.os.at_ hlt
        have hp2 := osay_at hp
        have hlen := HB.out _ (List.mem_of_getElem? hp.out)
        dsimp only at hlen
        rw [hql.out] at hlen
        obtain ⟨qA, qn, qc, ql⟩ := q
        dsimp only at *
        obtain ⟨s2, hs2⟩ : ∃ s2, s2 = s + (2 + qn) := ⟨_, rfl⟩
        have hsn : oSize ((osay l).take (k + 1)) = s2 := by rw [nth_take (Lib.hid hp2), oSize_snoc, hsz.out, hs2, hql.out]
        have e2 : (s : Int) + (2 + (qn : Int)) = (s2 : Int) := by omega
        have hs2b : s2 ≤ 20000 := by omega
        have HP2 := Lib.hid hp2
        have HSN := Lib.hid hsn
        have HS2 := Lib.hid hs2
        clear hs2 hsn hp2 hlen hp hq
        by_cases hbad : kd = 0 ∨ 255 < qn ∨ 200 < s
        · have hfin : oOk g.opts = false := by
            rw [HSAY.out]
            have := HS2.out
            rcases hbad with h | h | h
            · exact oOk_false HP2.out (.inl h)
            · exact oOk_false HP2.out (.inr (by rw [HSN.out]; omega))
            · exact oOk_false HP2.out (.inr (by rw [HSN.out]; omega))
          have hr := HR.out.2.1 h7 hfin
          subst hr
          clear HR hfin
          by_cases c1 : kd = 0
          · subst c1
            go_wp2_with fail
            go_ret
            exact ⟨rfl, HSB.out.bel⟩
          · have c1' : ¬ (kd : Int) = 0 := by omega
            have c1d : ((kd : Int) == 0) = false := beq_eq_false_iff_ne.2 c1'
            by_cases c2 : 255 < qn
            · have c2' : (255 : Int) < (qn : Int) := by omega
              go_wp2_with fail
              go_ret
              exact ⟨rfl, HSB.out.bel⟩
            · have c2' : ¬ (255 : Int) < (qn : Int) := by omega
              have c2d : decide (255 < (qn : Int)) = false := decide_eq_false c2'
              have c3' : (200 : Int) < (s : Int) := by omega
              clear hbad
              go_wp2_with fail
              go_ret
              exact ⟨rfl, HSB.out.bel⟩
        · have c1' : ¬ (kd : Int) = 0 := by omega
          have c1d : ((kd : Int) == 0) = false := beq_eq_false_iff_ne.2 c1'
          have c2' : ¬ (255 : Int) < (qn : Int) := by omega
          have c2d : decide (255 < (qn : Int)) = false := decide_eq_false c2'
          have c3' : ¬ (200 : Int) < (s : Int) := by omega
          have hs9 : s2 ≤ 200 + 257 := by have := HS2.out; omega
          have HKD : Hid (∀ p ∈ (osay l).take (k + 1), p.1 ≠ 0) := Lib.hid (by
            rw [nth_take (Lib.hid HP2.out)]
            intro p hp
            rcases List.mem_append.1 hp with hp | hp
            · exact hkd.out p hp
            · simp at hp; subst hp; dsimp only; omega)
          clear hbad
          go_wp2_with fail
          go_roundw
          case rel => exact ⟨k + 1, s2, by omega, by go_num, rfl, hs9, HSN, HKD, trivial⟩
          case measure => simp [intOf]; omega
      · have hge : ¬ (k : Int) < (n : Int) := by omega
        have hall : (osay l).take k = osay l := List.take_of_length_le (by unfold osay; rw [List.length_map, HSB.out.os.len]; omega)
        have h1 := hsz.out
        have h2 := hkd.out
        rw [hall, ← HSAY.out] at h1 h2
        have H2 := Lib.hid h2
        have H1 := Lib.hid h1
        clear h1 h2 hall hsz hkd
        by_cases c0 : 200 < s
        · have c0' : (200 : Int) < (s : Int) := by omega
          have hfin : oOk g.opts = false := by
            rw [← Bool.not_eq_true, oOk_iff]
            rintro ⟨_, h⟩
            rw [H1.out] at h
            omega
          have hr := HR.out.2.1 h7 hfin
          subst hr
          clear HR hfin
          go_wp2_with fail
          go_ret
          exact ⟨rfl, HSB.out.bel⟩
        · have c0' : ¬ (200 : Int) < (s : Int) := by omega
          have hok : oOk g.opts = true := (oOk_iff _).2 ⟨H2.out, by rw [H1.out]; omega⟩
          by_cases hd : 1024 < m
          · have hd' : (1024 : Int) < (m : Int) := by omega
            have hr := HR.out.2.2.1 h7 hok hd
            subst hr
            clear HR hok
            go_wp2_with fail
            go_ret
            exact ⟨rfl, HSB.out.bel⟩
          · have hd' : ¬ (1024 : Int) < (m : Int) := by omega
            have hr := HR.out.2.2.2 h7 hok hd
            subst hr
            clear HR hok
            go_wp2_with fail
            go_ret
            exact ⟨rfl, HSB.out.bel⟩
end Go.Proofs.Ytiabafnfiedlcaa
