/- Segments in memory; how many bytes options take, and which error a segment has. -/
import Derived.Test.YtbiimgfocgbdaaaG7MacBack
import Derived.Test.YtbiimgfocgbdaaaG8MacBack
import Derived.Test.YtbiimgfocgbdaaaG4MacBack

namespace Go.Proofs.Ytbiimgfocgbdaaa
open Go.RowKit
set_option linter.unusedVariables false
/-- Options as cells: kinds, and the slices of their bodies. -/
abbrev Ob := Nat × Body
def oel (p : Ob) : List Value := [.int .u8 (p.1 : Int), .slice p.2.A p.2.n p.2.c]
def ocs (l : List Ob) : List Value := l.flatMap oel
theorem ocs_cons (p : Ob) (l : List Ob) : ocs (p :: l) = .int .u8 (p.1 : Int) :: .slice p.2.A p.2.n p.2.c :: ocs l := rfl
theorem ocs_append (l m : List Ob) : ocs (l ++ m) = ocs l ++ ocs m := by simp [ocs]
theorem ocs_len (l : List Ob) : (ocs l).length = l.length * 2 := by
  induction l with
  | nil => rfl
  | cons p l ih => rw [ocs_cons, List.length_cons, List.length_cons, ih, List.length_cons]; omega
theorem ocs_get {l : List Ob} {i : Nat} {p : Ob} (h : l[i]? = some p) : (ocs l)[i * 2]? = some (.int .u8 (p.1 : Int)) ∧ (ocs l)[i * 2 + 1]? = some (.slice p.2.A p.2.n p.2.c) := by
  induction l generalizing i with
  | nil => simp at h
  | cons q l ih =>
    cases i with
    | zero => simp at h; subst h; exact ⟨rfl, rfl⟩
    | succ i =>
      have := ih (i := i) (by simpa using h)
      rw [show (i + 1) * 2 = i * 2 + 1 + 1 by omega, ocs_cons, List.getElem?_cons_succ, List.getElem?_cons_succ, List.getElem?_cons_succ, List.getElem?_cons_succ]
      exact this
theorem ocs_one (l : List Ob) : ∀ v ∈ ocs l, v.oneCell' = true := by
  intro v hv
  simp only [ocs, oel, List.mem_flatMap] at hv
  obtain ⟨p, _, hv⟩ := hv
  simp at hv
  rcases hv with rfl | rfl <;> rfl
/-- What they say. -/
def osay (l : List Ob) : List Opn := l.map fun p => (p.1, p.2.l)
/-- Options that can be read in a world. -/
structure Os (w : World) (A : Option Addr) (n c : Nat) (l : List Ob) : Prop where
  row : Rd w w.heap.size 2 A n (ocs l)
  bod : ∀ p ∈ l, Rd w w.heap.size 1 p.2.A p.2.n (ns .u8 p.2.l) ∧ p.2.n ≤ p.2.c ∧ p.2.c ≤ maxLen
  cap : n ≤ c ∧ c ≤ maxLen
theorem Os.nil (w : World) : Os w none 0 0 [] := ⟨Rd.nil _ _ _ _, by simp, Nat.le_refl _, Nat.zero_le _⟩
theorem Os.into {w w' : World} {A : Option Addr} {n c : Nat} {l : List Ob} (h : Os w A n c l) (hb : Below w.heap.size w w') : Os w' A n c l :=
  ⟨h.row.into hb, fun p hp => ⟨(h.bod p hp).1.into hb, (h.bod p hp).2⟩, h.cap⟩
theorem Os.len {w : World} {A : Option Addr} {n c : Nat} {l : List Ob} (h : Os w A n c l) : l.length = n := by have := h.row.1; rw [ocs_len] at this; omega
/-- An option, by a name of its own. -/
theorem Os.at_ {w : World} {A : Option Addr} {n c : Nat} {l : List Ob} (h : Os w A n c l) {i : Nat} (hi : i < n) :
    ∃ (b off k : Nat) (q : Body), A = some ⟨b, off, none⟩ ∧ b < w.heap.size ∧ w.cell? ⟨b, off + i * 2, none⟩ = some (.int .u8 (k : Int)) ∧ w.cell? ⟨b, off + i * 2 + 1, none⟩ = some (.slice q.A q.n q.c) ∧ Hid (l[i]? = some (k, q)) ∧ Hid (Rd w w.heap.size 1 q.A q.n (ns .u8 q.l)) ∧ Hid (q.l.length = q.n) := by
  obtain ⟨b, off, e, hb, hc⟩ := h.row.2 (by omega)
  have hl := h.len
  have hg : l[i]? = some l[i] := List.getElem?_eq_getElem (by omega)
  obtain ⟨g1, g2⟩ := ocs_get hg
  have hbd := h.bod l[i] (List.getElem_mem _)
  exact ⟨b, off, l[i].1, l[i].2, e, hb, (hc (i * 2) (by omega)).trans g1, (Nat.add_assoc off (i * 2) 1 ▸ hc (i * 2 + 1) (by omega)).trans g2, Lib.hid hg, Lib.hid hbd.1, Lib.hid hbd.1.natLen⟩
/-- A segment that can be read. -/
def segCs (g : Sg) (A : Option Addr) (n c : Nat) (D : Option Addr) (m d : Nat) : Array Value :=
  #[.int .u16 (g.src : Int), .int .u16 (g.dst : Int), .int .u32 (g.seq : Int), .int .u32 (g.ack : Int), .int .u8 (g.flags : Int), .slice A n c, .slice D m d]
def SegV (w : World) (v : Value) (g : Sg) : Prop :=
  ∃ (A : Option Addr) (n c : Nat) (D : Option Addr) (m d : Nat) (l : List Ob), v = .agg (segCs g A n c D m d) ∧ Os w A n c l ∧ g.opts = osay l ∧ Rd w w.heap.size 1 D m (ns .u8 g.data) ∧ m ≤ d ∧ d ≤ maxLen
theorem SegV.into {w w' : World} {v : Value} {g : Sg} (h : SegV w v g) (hb : Below w.heap.size w w') : SegV w' v g := by
  obtain ⟨A, n, c, D, m, d, l, e, h1, h2, h3, h4⟩ := h
  exact ⟨A, n, c, D, m, d, l, e, h1.into hb, h2, h3.into hb, h4⟩
theorem SegV.zero (w : World) : SegV w (.agg (segCs zeroS none 0 0 none 0 0)) zeroS := ⟨none, 0, 0, none, 0, 0, [], rfl, Os.nil w, rfl, Rd.nil _ _ _ _, Nat.le_refl _, Nat.zero_le _⟩
/-- Not too much to be asked. -/
structure Sg.small (g : Sg) : Prop where
  opts : g.opts.length ≤ 10000
  bodies : ∀ p ∈ g.opts, p.2.length ≤ 10000
  data : g.data.length ≤ 10000
theorem osay_take (l : List Ob) (k : Nat) : osay (l.take k) = (osay l).take k := by simp [osay, List.map_take]
theorem osay_at {l : List Ob} {i k : Nat} {q : Body} (h : Hid (l[i]? = some (k, q))) : (osay l)[i]? = some (k, q.l) := by unfold osay; rw [List.getElem?_map, h.out]; rfl
/-- How many bytes; none, where they may not be. -/
def oAns (l : List Opn) : Int := if oOk l then (oSize l : Int) else 0
theorem oAns_ok {l : List Opn} (h : oOk l = true) : oAns l = (oSize l : Int) := if_pos h
theorem oAns_no {l : List Opn} (h : oOk l = false) : oAns l = 0 := if_neg (by rw [h]; exact Bool.false_ne_true)
/-- A segment's own cells in a block. -/
theorem seg_cells {w : World} {T : Nat} {t : TypeId} {g : Sg} {A : Option Addr} {n c : Nat} {D : Option Addr} {m d : Nat} (h : Blk w T t (segCs g A n c D m d)) :
    w.cell? ⟨T, 0, none⟩ = some (.int .u16 (g.src : Int)) ∧ w.cell? ⟨T, 1, none⟩ = some (.int .u16 (g.dst : Int)) ∧ w.cell? ⟨T, 2, none⟩ = some (.int .u32 (g.seq : Int)) ∧ w.cell? ⟨T, 3, none⟩ = some (.int .u32 (g.ack : Int)) ∧ w.cell? ⟨T, 4, none⟩ = some (.int .u8 (g.flags : Int)) ∧ w.cell? ⟨T, 5, none⟩ = some (.slice A n c) ∧ w.cell? ⟨T, 6, none⟩ = some (.slice D m d) := by
  refine ⟨?_, ?_, ?_, ?_, ?_, ?_, ?_⟩ <;> (rw [h.cell]; rfl)
/-- A segment in a block of its own, and what it leads to. -/
structure SBox (w W : World) (T : Nat) (g : Sg) (A : Option Addr) (n c : Nat) (D : Option Addr) (m d : Nat) (l : List Ob) : Prop where
  blk : Blk W T 30 (segCs g A n c D m d)
  os : Os W A n c l
  say : g.opts = osay l
  dat : Rd W W.heap.size 1 D m (ns .u8 g.data)
  bel : Below w.heap.size w W
section
variable {w W W' : World} {T : Nat} {g : Sg} {A : Option Addr} {n c : Nat} {D : Option Addr} {m d : Nat} {l : List Ob}
theorem SBox.into (h : SBox w W T g A n c D m d l) (hb : Below W.heap.size W W') : SBox w W' T g A n c D m d l :=
  ⟨h.blk.below hb h.blk.lt, h.os.into hb, h.say, h.dat.into hb, h.bel.trans (hb.mono h.bel.size)⟩
theorem SBox.mk' (hO : Os w A n c l) (ho : g.opts = osay l) (hD : Rd w w.heap.size 1 D m (ns .u8 g.data)) : SBox w (w.alloc (.cells (segCs g A n c D m d) 30)) w.heap.size g A n c D m d l := by
  have hb0 : Below w.heap.size w (w.alloc (.cells (segCs g A n c D m d) 30)) := (Below.refl _ _).alloc (Nat.le_refl _) _
  exact ⟨Blk.new w 30 (segCs g A n c D m d), hO.into hb0, ho, hD.into hb0, hb0⟩
theorem SBox.olen (h : SBox w W T g A n c D m d l) : g.opts.length = n := by rw [h.say]; unfold osay; rw [List.length_map]; exact h.os.len
theorem SBox.dlen (h : SBox w W T g A n c D m d l) : g.data.length = m := h.dat.natLen
theorem SBox.bods (h : SBox w W T g A n c D m d l) (hs : g.small) : ∀ p ∈ l, p.2.l.length ≤ 10000 := fun p hp => hs.bodies (p.1, p.2.l) (by rw [h.say]; exact List.mem_map.2 ⟨p, hp, rfl⟩)
/-- The value that is loaded whole. -/
theorem SBox.val (h : SBox w W T g A n c D m d l) (hmd : m ≤ d) (hdm : d ≤ maxLen) : SegV W (.agg (segCs g A n c D m d)) g := ⟨A, n, c, D, m, d, l, rfl, h.os, h.say, h.dat, hmd, hdm⟩
end
theorem rightS_eq (g : Sg) : (7 < g.flags → rightS g = 70) ∧ (¬ 7 < g.flags → oOk g.opts = false → rightS g = 71) ∧ (¬ 7 < g.flags → oOk g.opts = true → 1024 < g.data.length → rightS g = 72) ∧ (¬ 7 < g.flags → oOk g.opts = true → ¬ 1024 < g.data.length → rightS g = 0) := by
  unfold rightS
  refine ⟨fun h => if_pos h, fun h1 h2 => by rw [if_neg h1, if_pos h2], fun h1 h2 h3 => by rw [if_neg h1, if_neg (by rw [h2]; simp), if_pos h3], fun h1 h2 h3 => by rw [if_neg h1, if_neg (by rw [h2]; simp), if_neg h3]⟩
end Go.Proofs.Ytbiimgfocgbdaaa

/- The document's answers of layer 2. -/
namespace Go.Proofs.Ytbiimgfocgbdaaa
open Go.RowKit
set_option linter.unusedVariables false

set_option maxRecDepth 20000 in
theorem rput_any (k : Nat) : ∀ (v : Value) (l : List Nat) (n B : Nat) (w : World), k ≤ 8 → Nats w 5 .u8 B v l → B ≤ w.heap.size → l.length + k ≤ 100000 → n < 18446744073709551616 →
    Calls Try.prog 57 #[v, .int .u64 n, .int .i64 k] w fun e w' => ∃ v', e = .returned v' ∧ Nats w' 5 .u8 B v' (l ++ be n k) ∧ Below B w w' := by
  induction k with
  | zero =>
    intro v l n B w hk ho hB hl hn
    go_enter Try.func57, Try.ntmps57
    go_wp2
    go_ret
    exact ⟨_, rfl, by simpa [be] using ho, Below.refl _ _⟩
  | succ k ih =>
    intro v l n B w hk ho hB hl hn
    have HO := Lib.hid ho; have HN := Lib.hid hn; have IH := Lib.hid ih
    clear ho hn ih
    go_enter Try.func57, Try.ntmps57
    go_wp2_with fail
    rw [show IntKind.u64.wrap ((n : Int) / 256) = ((n / 256 : Nat) : Int) by rw [IntKind.wrap_u64]; have := HN.out; omega]
    refine (IH.out v l (n / 256) B w (by omega) HO.out hB (by omega) (by have := HN.out; omega)).mono ?_
    rintro e w1 ⟨v1, rfl, h1, hb1⟩
    have hz : B ≤ w1.heap.size := Nat.le_trans hB hb1.size
    go_wp2_with (at_builtin; go_must (refine app1n pel8 (n % 256) rfl _ _ rfl rfl h1 rfl ?_ ?_ hz ?_))
    · rfl
    · rw [List.length_append, be_len]; exact room_ge (by omega)
    intro v2 w2 h2 _ hb2
    go_wp2
    go_ret
    exact ⟨v2, rfl, by rw [be, ← List.append_assoc]; simpa using h2, hb1.trans hb2⟩

theorem uuacc (m x : Nat) (hm : m < 256 ^ 7) (hx : x < 256) : IntKind.u64.wrap (IntKind.u64.wrap ((m : Int) * 256) + ((x : Nat) : Int)) = ((m * 256 + x : Nat) : Int) := by
  rw [IntKind.wrap_u64, IntKind.wrap_u64]; omega

set_option maxRecDepth 20000 in
theorem rget_any (A : Option Addr) (n c : Nat) (l : List Nat) (s : Int) (B : Nat) (w : World) (hr : Rd w B 1 A n (ns .u8 l)) (hnc : n ≤ c) (hb : ∀ x ∈ l, x < 256) (hn : n ≤ 100000) :
    Calls Try.prog 99 #[.slice A n c, .int .i64 s] w fun e w' => Below w.heap.size w w' ∧
      ((∃ (t : Nat) (A' : Option Addr) (n' c' : Nat), s = (t : Int) ∧ 1 ≤ t ∧ t ≤ 8 ∧ n = t + n' ∧ n' ≤ c' ∧ e = .returned (.tuple #[.int .u64 (ub (l.take t) : Nat), .slice A' n' c', .bool true]) ∧ Rd w B 1 A' n' (ns .u8 (l.drop t))) ∨
      ((okS s = false ∨ ¬ s.toNat ≤ n) ∧ e = .returned (.tuple #[.int .u64 0, .slice none 0 0, .bool false]))) := by
  have HR := Lib.hid hr; have HB := Lib.hid hb; have HL := Lib.hid hr.natLen
  clear hr hb
  by_cases h1 : s < 1
  · go_enter Try.func99, Try.ntmps99
    go_wp2
    go_ret3
    exact ⟨Below.refl _ _, .inr ⟨.inl (by simp [okS]; omega), rfl⟩⟩
  obtain ⟨t, rfl⟩ : ∃ t : Nat, s = (t : Int) := ⟨s.toNat, by omega⟩
  by_cases h2 : t > 8
  · have h3 : (8 : Int) < (t : Int) := by omega
    go_enter Try.func99, Try.ntmps99
    go_wp2
    go_ret3
    exact ⟨Below.refl _ _, .inr ⟨.inl (by simp [okS]; omega), rfl⟩⟩
  have h3 : decide ((8 : Int) < (t : Int)) = false := by simp; omega
  by_cases h4 : n < t
  · have h5 : (n : Int) < (t : Int) := by omega
    have H4 := Lib.hid h4
    clear h4
    go_enter Try.func99, Try.ntmps99
    go_wp2
    go_ret3
    exact ⟨Below.refl _ _, .inr ⟨.inr (by have := H4.out; simp; omega), rfl⟩⟩
  have h5 : decide ((n : Int) < (t : Int)) = false := by simp; omega
  have ht1 : 1 ≤ t := by omega
  have ht8 : t ≤ 8 := by omega
  have htn : t ≤ n := by omega
  clear h2 h4
  go_enter Try.func99, Try.ntmps99
  go_wp2_with fail
  go_loop [7, 8] (fun s i => ∃ k : Nat, k ≤ t ∧ i = .int .i64 k ∧ s = .int .u64 (ub (l.take k) : Nat)) (fun _ i => t - (intOf i).toNat)
  case atStart => exact ⟨0, Nat.zero_le _, rfl, rfl⟩
  case round =>
    obtain ⟨k, hk, rfl, rfl⟩ := hrel
    by_cases hlt : k < t
    · obtain ⟨b, off, x, rfl, hbk, hcell, hx⟩ := HR.out.nth (i := k) (by omega)
      have hx8 := HB.out _ (nth_mem hx)
      have hlen : (l.take k).length = k := by rw [List.length_take, HL.out]; omega
      have hub := ub_lt k (l.take k) hlen fun y hy => HB.out y (List.mem_of_mem_take hy)
      have hub7 : ub (l.take k) < 256 ^ 7 := Nat.lt_of_lt_of_le hub (Nat.pow_le_pow_right (by omega) (by omega))
      have hacc := uuacc (ub (l.take k)) x hub7 hx8
      have hs : ub (l.take (k + 1)) = ub (l.take k) * 256 + x := by rw [nth_take hx, ub_snoc]
      rw [← hs] at hacc
      clear hub hub7 hlen hs
      go_wp2_with fail
      go_round
      case rel => exact ⟨k + 1, by omega, by go_num, rfl⟩
      case measure => simp [intOf]; omega
    · have hk : k = t := by omega
      subst hk
      have s1 : (0 : Int) ≤ (k : Int) := by omega
      have s2 : (k : Int) ≤ (n : Int) := by omega
      have s3 : (k : Int) ≤ (c : Int) := by omega
      have HD := HR.out.dropN htn hnc
      by_cases hck : c = k
      · subst hck
        obtain rfl : n = c := by omega
        rw [if_pos rfl, Nat.sub_self] at HD
        have HD := Lib.hid HD
        go_wp2_with fail
        refine wp_opend [([0, 1, 2, 3, 4, 5, 6], none)] (by kernel_rfl) (by kernel_rfl) (by kernel_rfl) (fun QQ hQ wd hwd => ?_); (try simp only [List.map_cons, List.map_nil, List.getD_cons_zero, List.getD_cons_succ])
        have hbd := drawn_below hwd w.heap.size
        refine walkS_last ?_
        simp only [List.map_cons, List.map_nil, List.getD_cons_zero, List.getD_cons_succ]
        (repeat (first | (refine qskip (by rfl) ?_; simp only [Act.put, List.setIfInBounds_toArray, List.set_cons_zero, List.set_cons_succ]) | (refine qstep (by rfl) (fun K hK => qval (v := ?_) (fun w' hx => ?_) (hK _ ?_)); rotate_left; (go_simp; with_reducible rfl); clear hK K; (try simp only [Act.put, List.setIfInBounds_toArray, List.set_cons_zero, List.set_cons_succ])) | (refine qstep (by rfl) (fun K hK => qload _ rfl rfl (by assumption) (by kernel_rfl) (hK _ ?_)); clear hK K; simp only [Act.put, List.setIfInBounds_toArray, List.set_cons_zero, List.set_cons_succ])))
        refine wpQuiet_nil (hQ.out _ _ ?_)
        clear hQ
        go_wp2_with fail
        go_ret3
        exact ⟨hbd, .inl ⟨n, A, 0, 0, rfl, ht1, ht8, rfl, Nat.le_refl _, rfl, HD.out⟩⟩
      · rw [if_neg hck] at HD
        have HD := Lib.hid HD
        go_wp2_with fail
        refine wp_opend [([0, 1, 2, 3, 4, 5, 6], none)] (by kernel_rfl) (by kernel_rfl) (by kernel_rfl) (fun QQ hQ wd hwd => ?_); (try simp only [List.map_cons, List.map_nil, List.getD_cons_zero, List.getD_cons_succ])
        have hbd := drawn_below hwd w.heap.size
        refine walkS_last ?_
        simp only [List.map_cons, List.map_nil, List.getD_cons_zero, List.getD_cons_succ]
        (repeat (first | (refine qskip (by rfl) ?_; simp only [Act.put, List.setIfInBounds_toArray, List.set_cons_zero, List.set_cons_succ]) | (refine qstep (by rfl) (fun K hK => qval (v := ?_) (fun w' hx => ?_) (hK _ ?_)); rotate_left; (go_simp; with_reducible rfl); clear hK K; (try simp only [Act.put, List.setIfInBounds_toArray, List.set_cons_zero, List.set_cons_succ])) | (refine qstep (by rfl) (fun K hK => qload _ rfl rfl (by assumption) (by kernel_rfl) (hK _ ?_)); clear hK K; simp only [Act.put, List.setIfInBounds_toArray, List.set_cons_zero, List.set_cons_succ])))
        refine wpQuiet_nil (hQ.out _ _ ?_)
        clear hQ
        go_wp2_with fail
        go_ret3
        exact ⟨hbd, .inl ⟨k, _, n - k, c - k, rfl, ht1, ht8, by omega, by omega, rfl, HD.out⟩⟩
end Go.Proofs.Ytbiimgfocgbdaaa
