/- Layer 10: what a sum covers, in pieces. -/
import Derived.Test.YtbiimgfocgbdaaaG4MacOpens
import Derived.Test.YtbiimgfocgbdaaaG12MacOpens
import Derived.Test.YtbiimgfocgbdaaaG13MacOpens
import Derived.Test.YtbiimgfocgbdaaaG6MacOpens
import Derived.Deep.Cut

namespace Go.Proofs.Ytbiimgfocgbdaaa
open Go.RowKit
set_option linter.unusedVariables false
set_option linter.unusedSimpArgs false
/-- Slices of bytes in a row. -/
theorem Pts.many {w : World} {B : Nat} (t : TypeId) (ps : List Body) (h : ∀ p ∈ ps, Rd w B 1 p.A p.n (ns .u8 p.l) ∧ p.n ≤ p.c) (hB : B ≤ w.heap.size) (cs : Array Value) (hcs : cs.toList = ps.map fun p => Value.slice p.A p.n p.c) :
    Pts (w.alloc (.cells cs t)) (w.heap.size + 1) (some ⟨w.heap.size, 0, none⟩) ps.length (ps.map (·.l)) := by
  have hsz : cs.size = ps.length := by rw [← Array.length_toList, hcs, List.length_map]
  refine ⟨by simp, ps.map fun p => Value.slice p.A p.n p.c, ?_, fun i b hi => ?_⟩
  · have := Rd.made w t cs (n := ps.length) (size := 1) (by omega)
    rw [hcs] at this
    exact this
  · rw [List.getElem?_map] at hi
    cases hp : ps[i]? with
    | none => rw [hp] at hi; cases hi
    | some p =>
      rw [hp] at hi
      obtain rfl : p.l = b := by simpa using hi
      have hm := h p (List.mem_of_getElem? hp)
      have hl : p.l.length = p.n := hm.1.natLen
      exact ⟨p.A, p.c, by rw [List.getElem?_map, hp, hl]; rfl, by rw [hl]; exact hm.2, by rw [hl]; exact (hm.1.alloc hB _).mono (by omega)⟩
theorem GH.pts_many {M : Bool} {w : World} (t : TypeId) (ps : List Body) (bss : List (List Nat)) (k : Nat) (hk : ps.length = k) (hb : ps.map (·.l) = bss) (h : ∀ p ∈ ps, Rd w w.heap.size 1 p.A p.n (Go.Proofs.Ytbiimgfocgbdaaa.ns .u8 p.l) ∧ p.n ≤ p.c) (cs : Array Value) (hcs : cs.toList = ps.map fun p => Value.slice p.A p.n p.c) :
    (GH.SP.pts (M := M) bss).G (.slice (some ⟨w.heap.size, 0, none⟩) k k) (w.alloc (.cells cs t)) := by
  subst hk hb
  exact ⟨_, _, _, rfl, Nat.le_refl _, by simp, (Pts.many t ps h (Nat.le_refl _) cs hcs).mono (by simp)⟩
theorem Rd.gr {M : Bool} {B size n : Nat} {w w' : World} {A : Option Addr} {xs : List Value} (h : Rd w w.heap.size size A n xs) (hb : GH.Gr M B w w') : Rd w' w'.heap.size size A n xs := hb.rd h
theorem SegV.gr {M : Bool} {B : Nat} {w w' : World} {v : Value} {g : Sg} (h : SegV w v g) (hb : GH.Gr M B w w') : SegV w' v g := by
  obtain ⟨A, n, c, D, m, d, l, e, h1, h2, h3, h4⟩ := h
  exact ⟨A, n, c, D, m, d, l, e, ⟨hb.rd h1.row, fun p hp => ⟨hb.rd (h1.bod p hp).1, (h1.bod p hp).2⟩, h1.cap⟩, h2, hb.rd h3, h4⟩
theorem hdrS_byte (g : Sg) (hf : g.flags < 256) : ∀ x ∈ hdrS g, x < 256 := by
  intro x hx
  simp only [hdrS, List.mem_append, List.mem_singleton] at hx
  rcases hx with (((h | h) | h) | h) | h
  · exact be_byte _ _ x h
  · exact be_byte _ _ x h
  · exact be_byte _ _ x h
  · exact be_byte _ _ x h
  · omega
/-- What a sum covers, in pieces. -/
def coverP (g : Sg) (kd : Nat) (l : List Nat) : List (List Nat) := [hdrS g ++ [kd, l.length % 256], l.take (l.length - 8), be (g.data.length % 65536) 2, g.data]
theorem fbs_bb (a b : Nat) (ha : a < 256) (hb : b < 256) : fbs [((1 : Int), a), (1, b)] = [a, b] := by
  simp [fbs, okS, be1 ha, be1 hb]
theorem fbs_h (a : Nat) : fbs [((2 : Int), a)] = be a 2 := by simp [fbs, okS]
theorem put_hdr (g : Sg) (a b n n2 c c2 : Nat) (A A2 : Option Addr) (w : World) (h : Rd w w.heap.size 1 A n (ns .u8 (hdrS g))) (hs : Rd w w.heap.size 2 A2 2 (fs [((1 : Int), a), (1, b)])) (ha : a < 256) (hb : b < 256) :
    Calls Try.prog 70 #[.slice A n c, .slice A2 2 c2] w fun e w' => ∃ v, e = .returned v ∧ Below w.heap.size w w' ∧ ∀ M, (GH.SP.ns (M := M) .u8 (hdrS g ++ [a, b])).G v w' := by
  have hl : n = 13 := by have := h.natLen; rw [hdrS_len] at this; exact this.symm
  refine (pput_any A A2 n 2 c c2 (hdrS g) _ w h hs (by omega) (by intro p hp; simp at hp; rcases hp with rfl | rfl <;> simp <;> omega)).mono ?_
  rintro e w' ⟨v, rfl, h1, h2⟩
  rw [fbs_bb a b ha hb] at h1
  exact ⟨v, rfl, h2, fun M => GH.ns_of_own h1⟩
theorem mcEl : El Try.prog 28 5 (.int .u8 0) 1 1 := ⟨Try.underlying28, by kernel_rfl, rfl, by omega, by omega⟩
set_option maxRecDepth 20000 in
set_option maxHeartbeats 4000000 in
theorem mparts_any (v : Value) (g : Sg) (A : Option Addr) (n c kd : Nat) (l : List Nat) (w : World) (h : SegV w v g) (hg : g.bd) (hr : Rd w w.heap.size 1 A n (ns .u8 l)) (hnc : n ≤ c) (hn : n ≤ 1000000) (hkd : kd < 256) :
    Calls Try.prog 55 #[v, .agg #[.int .u8 (kd : Nat), .slice A n c]] w fun e w' => (∃ A' n' c', e = .returned (.slice A' n' c') ∧ n' ≤ c' ∧ (coverP g kd l).length = n' ∧ Pts w' w'.heap.size A' n' (coverP g kd l)) ∧ Below w.heap.size w w' := by
  have HSV := Lib.hid h
  obtain ⟨A1, n1, c1, D, m, d, lo, rfl, hO, ho, hD, hmd, hdm⟩ := h
  have HG := Lib.hid hg
  have HD := Lib.hid hD
  have HR := Lib.hid hr
  have hln := Lib.hid hr.natLen
  have hlm := Lib.hid hD.natLen
  clear hO hD ho hdm hg hr
  unfold segCs at *
  have hw8 : IntKind.i64.wrap ((n : Int) - 8) = (n : Int) - 8 := by rw [IntKind.wrap_i64]; omega
  obtain ⟨nb, hnb⟩ : ∃ nb, nb = n % 256 := ⟨_, rfl⟩
  have hnb256 : nb < 256 := by omega
  have hwb : IntKind.u8.wrap (n : Int) = (nb : Nat) := by rw [IntKind.wrap_u8]; omega
  obtain ⟨mh, hmh⟩ : ∃ mh, mh = m % 65536 := ⟨_, rfl⟩
  have hmh6 : mh < 65536 := by omega
  have hwm : IntKind.u16.wrap (m : Int) = (mh : Nat) := by rw [IntKind.wrap_u16]; omega
  obtain ⟨k, hk⟩ : ∃ k, k = n - 8 := ⟨_, rfl⟩
  have hmx : max ((n : Int) - 8) 0 = (k : Nat) := by omega
  have hkc : k ≤ c := by omega
  have hkn : k ≤ n := by omega
  have HNB := Lib.hid hnb
  have HMH := Lib.hid hmh
  have HKK := Lib.hid hk
  clear hnb hmh hk
  go_enter Try.func55, Try.ntmps55
  go_upto_region 2 with fail
  have hk0 : Hid (Blk (w.alloc (.cells #[.int .u16 (g.src : Int), .int .u16 (g.dst : Int), .int .u32 (g.seq : Int), .int .u32 (g.ack : Int), .int .u8 (g.flags : Int), .slice A1 n1 c1, .slice D m d] 30)) (w.heap.size) 30 #[.int .u16 (g.src : Int), .int .u16 (g.dst : Int), .int .u32 (g.seq : Int), .int .u32 (g.ack : Int), .int .u8 (g.flags : Int), .slice A1 n1 c1, .slice D m d]) := Lib.hid ((Blk.new w 30 #[.int .u16 (g.src : Int), .int .u16 (g.dst : Int), .int .u32 (g.seq : Int), .int .u32 (g.ack : Int), .int .u8 (g.flags : Int), .slice A1 n1 c1, .slice D m d]))
  replace hk0 : Hid (Blk ((w.alloc (.cells #[.int .u16 (g.src : Int), .int .u16 (g.dst : Int), .int .u32 (g.seq : Int), .int .u32 (g.ack : Int), .int .u8 (g.flags : Int), .slice A1 n1 c1, .slice D m d] 30)).alloc (.cells #[.int .u8 (kd : Nat), .slice A n c] 45)) (w.heap.size) 30 #[.int .u16 (g.src : Int), .int .u16 (g.dst : Int), .int .u32 (g.seq : Int), .int .u32 (g.ack : Int), .int .u8 (g.flags : Int), .slice A1 n1 c1, .slice D m d]) := Lib.hid (hk0.out.alloc _)
  have hk1 : Hid (Blk ((w.alloc (.cells #[.int .u16 (g.src : Int), .int .u16 (g.dst : Int), .int .u32 (g.seq : Int), .int .u32 (g.ack : Int), .int .u8 (g.flags : Int), .slice A1 n1 c1, .slice D m d] 30)).alloc (.cells #[.int .u8 (kd : Nat), .slice A n c] 45)) (w.heap.size + 1) 45 #[.int .u8 (kd : Nat), .slice A n c]) := Lib.hid ((Blk.new (w.alloc (.cells #[.int .u16 (g.src : Int), .int .u16 (g.dst : Int), .int .u32 (g.seq : Int), .int .u32 (g.ack : Int), .int .u8 (g.flags : Int), .slice A1 n1 c1, .slice D m d] 30)) 45 #[.int .u8 (kd : Nat), .slice A n c]) |> fun h => by simpa using h)
  have b1 : Hid (Below w.heap.size w ((w.alloc (.cells #[.int .u16 (g.src : Int), .int .u16 (g.dst : Int), .int .u32 (g.seq : Int), .int .u32 (g.ack : Int), .int .u8 (g.flags : Int), .slice A1 n1 c1, .slice D m d] 30)).alloc (.cells #[.int .u8 (kd : Nat), .slice A n c] 45))) := Lib.hid (((Below.refl w.heap.size w).alloc (Nat.le_refl _) (.cells #[.int .u16 (g.src : Int), .int .u16 (g.dst : Int), .int .u32 (g.seq : Int), .int .u32 (g.ack : Int), .int .u8 (g.flags : Int), .slice A1 n1 c1, .slice D m d] 30)).alloc (by simp) (.cells #[.int .u8 (kd : Nat), .slice A n c] 45))
  have hz : ((w.alloc (.cells #[.int .u16 (g.src : Int), .int .u16 (g.dst : Int), .int .u32 (g.seq : Int), .int .u32 (g.ack : Int), .int .u8 (g.flags : Int), .slice A1 n1 c1, .slice D m d] 30)).alloc (.cells #[.int .u8 (kd : Nat), .slice A n c] 45)).heap.size = w.heap.size + 2 := by simp
  generalize ((w.alloc (.cells #[.int .u16 (g.src : Int), .int .u16 (g.dst : Int), .int .u32 (g.seq : Int), .int .u32 (g.ack : Int), .int .u8 (g.flags : Int), .slice A1 n1 c1, .slice D m d] 30)).alloc (.cells #[.int .u8 (kd : Nat), .slice A n c] 45)) = w2 at hk0 hk1 b1 hz ⊢
  have HZ := Lib.hid hz
  clear hz
  have HT : Hid (Rd w2 w2.heap.size 1 A k (ns .u8 (l.take k))) := Lib.hid (by
    have h2 := HR.out.into b1.out
    exact h2.takeN hkn)
  have HD2 := Lib.hid (HD.out.into b1.out)
  replace HSV := Lib.hid (HSV.out.into b1.out)
  clear HD HR
  refine GH.wp_ghl (M := false) 27 ((GH.SP.eq (.agg #[.int .u16 (g.src : Int), .int .u16 (g.dst : Int), .int .u32 (g.seq : Int), .int .u32 (g.ack : Int), .int .u8 (g.flags : Int), .slice A1 n1 c1, .slice D m d])) :: (GH.SP.ns .u8 (hdrS g)) :: (GH.SP.eq (.pointer (some ⟨w.heap.size + 1, 0, none⟩))) :: (GH.SP.eq (.int .u8 (kd : Nat))) :: (GH.SP.eq (.agg #[.int .i64 1, .int .u64 (kd : Nat)])) :: (GH.SP.eq (.int .i64 (n : Nat))) :: (GH.SP.eq (.int .u8 (nb : Nat))) :: (GH.SP.eq (.agg #[.int .i64 1, .int .u64 (nb : Nat)])) :: (GH.SP.rd 2 2 (fs [(1, kd), (1, nb)])) :: (GH.SP.ns .u8 (hdrS g ++ [kd, nb])) :: (GH.SP.eq (.pointer (some ⟨w.heap.size + 1, 1, none⟩))) :: (GH.SP.eq (.slice A n c)) :: (GH.SP.eq (.int .i64 (n : Nat))) :: (GH.SP.eq (.int .i64 ((n : Int) - 8))) :: (GH.SP.eq (.int .i64 (k : Nat))) :: (GH.SP.eq (.slice A k c)) :: (GH.SP.eq (.pointer (some ⟨w.heap.size, 6, none⟩))) :: (GH.SP.eq (.slice D m d)) :: (GH.SP.eq (.int .i64 (m : Nat))) :: (GH.SP.eq (.int .u16 (mh : Nat))) :: (GH.SP.eq (.agg #[.int .i64 2, .int .u64 (mh : Nat)])) :: (GH.SP.rd 2 1 (fs [(2, mh)])) :: (GH.SP.ns .u8 (be mh 2)) :: (GH.SP.eq (.pointer (some ⟨w.heap.size, 6, none⟩))) :: (GH.SP.eq (.slice D m d)) :: (GH.SP.pts [hdrS g ++ [kd, nb], l.take k, be mh 2, g.data]) :: (GH.SP.pts [hdrS g ++ [kd, nb], l.take k, be mh 2, g.data]) :: []) (none :: none :: none :: none :: (some 26) :: none :: none :: none :: none :: (some 0) :: (some 1) :: (some 2) :: (some 3) :: (some 4) :: (some 5) :: (some 6) :: (some 7) :: (some 8) :: (some 9) :: (some 10) :: (some 11) :: (some 12) :: (some 13) :: (some 14) :: (some 15) :: (some 16) :: (some 17) :: (some 18) :: (some 19) :: (some 20) :: (some 21) :: (some 22) :: (some 23) :: (some 24) :: (some 25) :: []) [9, 10, 11, 12, 13, 14, 15, 16, 17, 18, 19, 20, 21, 22, 23, 24, 25, 26, 27, 28, 29, 30, 31, 32, 33, 34, 4] (by rfl) (by kernel_rfl) (by kernel_rfl) ?_ ?_ ?_
  · intro S jx v hjx
    match jx, hjx with
    | 0, _ => rfl
    | 1, _ => rfl
    | 2, _ => rfl
    | 3, _ => rfl
    | 4, _ => rfl
    | 5, _ => rfl
    | 6, _ => rfl
    | 7, _ => rfl
    | 8, _ => rfl
    | 9, _ => rfl
    | 10, _ => rfl
    | 11, _ => rfl
    | 12, _ => rfl
    | 13, _ => rfl
    | 14, _ => rfl
    | 15, _ => rfl
    | 16, _ => rfl
    | 17, _ => rfl
    | 18, _ => rfl
    | 19, _ => rfl
    | 20, _ => rfl
    | 21, _ => rfl
    | 22, _ => rfl
    | 23, _ => rfl
    | 24, _ => rfl
    | 25, _ => rfl
    | 26, _ => rfl
    | nx + 27, hjx => omega
  · intro jx hjx S w' hb hd
    match jx, hjx, hd with
    | 0, _, hd =>
      simp only [GH.mkL, List.getD_cons_succ, List.getD_cons_zero]
      clear hd
      exact GH.st_loads _ [.int .u16 (g.src : Int), .int .u16 (g.dst : Int), .int .u32 (g.seq : Int), .int .u32 (g.ack : Int), .int .u8 (g.flags : Int), .slice A1 n1 c1, .slice D m d] (by rfl) rfl rfl (((hk0.out.below hb.below hk0.out.lt)).loads 0 _ (by rfl)) (by kernel_rfl) (by kernel_rfl)
    | 1, _, hd =>
      simp only [GH.mkL, List.getD_cons_succ, List.getD_cons_zero]
      have d0 : S 0 = .agg #[.int .u16 (g.src : Int), .int .u16 (g.dst : Int), .int .u32 (g.seq : Int), .int .u32 (g.ack : Int), .int .u8 (g.flags : Int), .slice A1 n1 c1, .slice D m d] := (hd 0 (by kernel_rfl)).2
      rw [d0]
      clear d0
      clear hd
      refine GH.st_call (by rfl) hb.below.size (by go_simp) ((header_any _ g w' (HSV.out.gr hb) HG.out).mono ?_)
      rintro e w9 ⟨v, rfl, hN, hb9⟩
      exact ⟨_, rfl, hb9, GH.ns_of_own hN⟩
    | 2, _, hd =>
      simp only [GH.mkL, List.getD_cons_succ, List.getD_cons_zero]
      clear hd
      refine GH.st_eq (by rfl) ?_
      go_simp
      (try with_reducible rfl)
    | 3, _, hd =>
      simp only [GH.mkL, List.getD_cons_succ, List.getD_cons_zero]
      have d2 : S 2 = .pointer (some ⟨w.heap.size + 1, 0, none⟩) := (hd 2 (by kernel_rfl)).2
      rw [d2]
      clear d2
      clear hd
      exact GH.st_load _ (by rfl) rfl rfl (((hk1.out.below hb.below hk1.out.lt)).cell 0) (by kernel_rfl)
    | 4, _, hd =>
      simp only [GH.mkL, List.getD_cons_succ, List.getD_cons_zero]
      obtain ⟨A1, n1, c1, d1, e1, l1, H1⟩ := (hd 1 (by kernel_rfl)).2
      rw [d1]
      clear d1
      replace H1 := Lib.hid H1
      replace l1 := Lib.hid l1
      have d3 : S 3 = .int .u8 (kd : Nat) := (hd 3 (by kernel_rfl)).2
      rw [d3]
      clear d3
      clear hd
      refine GH.st_call (by rfl) hb.below.size (by go_simp) ((pB_any (kd : Nat) w' (by omega) (by omega)).mono ?_)
      rintro e w9 ⟨rfl, hb9⟩
      exact ⟨_, rfl, hb9, rfl⟩
    | 5, _, hd =>
      simp only [GH.mkL, List.getD_cons_succ, List.getD_cons_zero]
      clear hd
      refine GH.st_eq (by rfl) ?_
      go_simp
      (try with_reducible rfl)
    | 6, _, hd =>
      simp only [GH.mkL, List.getD_cons_succ, List.getD_cons_zero]
      have d5 : S 5 = .int .i64 (n : Nat) := (hd 5 (by kernel_rfl)).2
      rw [d5]
      clear d5
      clear hd
      refine GH.st_eq (by rfl) ?_
      go_simp
      (try with_reducible rfl)
    | 7, _, hd =>
      simp only [GH.mkL, List.getD_cons_succ, List.getD_cons_zero]
      have d4 : S 4 = .agg #[.int .i64 1, .int .u64 (kd : Nat)] := (hd 4 (by kernel_rfl)).2
      rw [d4]
      clear d4
      have d6 : S 6 = .int .u8 (nb : Nat) := (hd 6 (by kernel_rfl)).2
      rw [d6]
      clear d6
      clear hd
      refine GH.st_call (by rfl) hb.below.size (by go_simp) ((pB_any (nb : Nat) w' (by omega) (by omega)).mono ?_)
      rintro e w9 ⟨rfl, hb9⟩
      exact ⟨_, rfl, hb9, rfl⟩
    | 8, _, hd =>
      simp only [GH.mkL, List.getD_cons_succ, List.getD_cons_zero]
      have d4 : S 4 = .agg #[.int .i64 1, .int .u64 (kd : Nat)] := (hd 4 (by kernel_rfl)).2
      rw [d4]
      clear d4
      have d7 : S 7 = .agg #[.int .i64 1, .int .u64 (nb : Nat)] := (hd 7 (by kernel_rfl)).2
      rw [d7]
      clear d7
      clear hd
      refine ⟨fun K hK => ?_⟩
      go_wp2_with fail
      exact hK _ _ (GH.Gr.of ((Below.refl _ _).alloc (Nat.le_refl _) _) hb.below.size) (GH.rd_lit rfl rfl)
    | 9, _, hd =>
      simp only [GH.mkL, List.getD_cons_succ, List.getD_cons_zero]
      obtain ⟨A1, n1, c1, d1, e1, l1, H1⟩ := (hd 1 (by kernel_rfl)).2
      rw [d1]
      clear d1
      replace H1 := Lib.hid H1
      replace l1 := Lib.hid l1
      have d7 : S 7 = .agg #[.int .i64 1, .int .u64 (nb : Nat)] := (hd 7 (by kernel_rfl)).2
      rw [d7]
      clear d7
      obtain ⟨A8, c8, d8, e8, H8⟩ := (hd 8 (by kernel_rfl)).2
      rw [d8]
      clear d8
      replace H8 := Lib.hid H8
      clear hd
      refine GH.st_call (by rfl) hb.below.size (by go_simp) ((put_hdr g kd nb n1 2 c1 c8 A1 A8 w' H1.out H8.out hkd hnb256).mono ?_)
      rintro e w9 ⟨v, rfl, hb9, hq⟩
      exact ⟨_, rfl, hb9, hq _⟩
    | 10, _, hd =>
      simp only [GH.mkL, List.getD_cons_succ, List.getD_cons_zero]
      clear hd
      refine GH.st_eq (by rfl) ?_
      go_simp
      (try with_reducible rfl)
    | 11, _, hd =>
      simp only [GH.mkL, List.getD_cons_succ, List.getD_cons_zero]
      have d10 : S 10 = .pointer (some ⟨w.heap.size + 1, 1, none⟩) := (hd 10 (by kernel_rfl)).2
      rw [d10]
      clear d10
      clear hd
      exact GH.st_load _ (by rfl) rfl rfl (((hk1.out.below hb.below hk1.out.lt)).cell 1) (by kernel_rfl)
    | 12, _, hd =>
      simp only [GH.mkL, List.getD_cons_succ, List.getD_cons_zero]
      clear hd
      refine GH.st_eq (by rfl) ?_
      go_simp
      (try with_reducible rfl)
    | 13, _, hd =>
      simp only [GH.mkL, List.getD_cons_succ, List.getD_cons_zero]
      have d12 : S 12 = .int .i64 (n : Nat) := (hd 12 (by kernel_rfl)).2
      rw [d12]
      clear d12
      clear hd
      refine GH.st_eq (by rfl) ?_
      go_simp
      (try with_reducible rfl)
    | 14, _, hd =>
      simp only [GH.mkL, List.getD_cons_succ, List.getD_cons_zero]
      have d13 : S 13 = .int .i64 ((n : Int) - 8) := (hd 13 (by kernel_rfl)).2
      rw [d13]
      clear d13
      clear hd
      refine GH.st_eq (by rfl) ?_
      go_simp
      (try with_reducible rfl)
    | 15, _, hd =>
      simp only [GH.mkL, List.getD_cons_succ, List.getD_cons_zero]
      have d11 : S 11 = .slice A n c := (hd 11 (by kernel_rfl)).2
      rw [d11]
      clear d11
      have d14 : S 14 = .int .i64 (k : Nat) := (hd 14 (by kernel_rfl)).2
      rw [d14]
      clear d14
      clear hd
      refine GH.st_eq (by rfl) ?_
      have hcut := run_cut_h mcEl A n c k hkc w'
      go_simp
      (try with_reducible rfl)
    | 16, _, hd =>
      simp only [GH.mkL, List.getD_cons_succ, List.getD_cons_zero]
      clear hd
      refine GH.st_eq (by rfl) ?_
      go_simp
      (try with_reducible rfl)
    | 17, _, hd =>
      simp only [GH.mkL, List.getD_cons_succ, List.getD_cons_zero]
      have d16 : S 16 = .pointer (some ⟨w.heap.size, 6, none⟩) := (hd 16 (by kernel_rfl)).2
      rw [d16]
      clear d16
      clear hd
      exact GH.st_load _ (by rfl) rfl rfl (((hk0.out.below hb.below hk0.out.lt)).cell 6) (by kernel_rfl)
    | 18, _, hd =>
      simp only [GH.mkL, List.getD_cons_succ, List.getD_cons_zero]
      have d17 : S 17 = .slice D m d := (hd 17 (by kernel_rfl)).2
      rw [d17]
      clear d17
      clear hd
      refine GH.st_eq (by rfl) ?_
      go_simp
      (try with_reducible rfl)
    | 19, _, hd =>
      simp only [GH.mkL, List.getD_cons_succ, List.getD_cons_zero]
      have d18 : S 18 = .int .i64 (m : Nat) := (hd 18 (by kernel_rfl)).2
      rw [d18]
      clear d18
      clear hd
      refine GH.st_eq (by rfl) ?_
      go_simp
      (try with_reducible rfl)
    | 20, _, hd =>
      simp only [GH.mkL, List.getD_cons_succ, List.getD_cons_zero]
      obtain ⟨A9, n9, c9, d9, e9, l9, H9⟩ := (hd 9 (by kernel_rfl)).2
      rw [d9]
      clear d9
      replace H9 := Lib.hid H9
      replace l9 := Lib.hid l9
      have d19 : S 19 = .int .u16 (mh : Nat) := (hd 19 (by kernel_rfl)).2
      rw [d19]
      clear d19
      clear hd
      refine GH.st_call (by rfl) hb.below.size (by go_simp) ((pH_any (mh : Nat) w' (by omega) (by omega)).mono ?_)
      rintro e w9 ⟨rfl, hb9⟩
      exact ⟨_, rfl, hb9, rfl⟩
    | 21, _, hd =>
      simp only [GH.mkL, List.getD_cons_succ, List.getD_cons_zero]
      have d20 : S 20 = .agg #[.int .i64 2, .int .u64 (mh : Nat)] := (hd 20 (by kernel_rfl)).2
      rw [d20]
      clear d20
      clear hd
      refine ⟨fun K hK => ?_⟩
      go_wp2_with fail
      exact hK _ _ (GH.Gr.of ((Below.refl _ _).alloc (Nat.le_refl _) _) hb.below.size) (GH.rd_lit rfl rfl)
    | 22, _, hd =>
      simp only [GH.mkL, List.getD_cons_succ, List.getD_cons_zero]
      have d20 : S 20 = .agg #[.int .i64 2, .int .u64 (mh : Nat)] := (hd 20 (by kernel_rfl)).2
      rw [d20]
      clear d20
      obtain ⟨A21, c21, d21, e21, H21⟩ := (hd 21 (by kernel_rfl)).2
      rw [d21]
      clear d21
      replace H21 := Lib.hid H21
      clear hd
      refine GH.st_call (by rfl) hb.below.size (by go_simp) ((put_nil 1 c21 A21 [(2, mh)] w' H21.out (by omega) (by intro p hp; simp at hp; subst hp; simp; omega)).mono ?_)
      rintro e w9 ⟨v, rfl, hb9, hq⟩
      exact ⟨_, rfl, hb9, (by rw [← fbs_h]; exact hq _)⟩
    | 23, _, hd =>
      simp only [GH.mkL, List.getD_cons_succ, List.getD_cons_zero]
      clear hd
      refine GH.st_eq (by rfl) ?_
      go_simp
      (try with_reducible rfl)
    | 24, _, hd =>
      simp only [GH.mkL, List.getD_cons_succ, List.getD_cons_zero]
      have d23 : S 23 = .pointer (some ⟨w.heap.size, 6, none⟩) := (hd 23 (by kernel_rfl)).2
      rw [d23]
      clear d23
      clear hd
      exact GH.st_load _ (by rfl) rfl rfl (((hk0.out.below hb.below hk0.out.lt)).cell 6) (by kernel_rfl)
    | 25, _, hd =>
      simp only [GH.mkL, List.getD_cons_succ, List.getD_cons_zero]
      obtain ⟨A9, n9, c9, d9, e9, l9, H9⟩ := (hd 9 (by kernel_rfl)).2
      rw [d9]
      clear d9
      replace H9 := Lib.hid H9
      replace l9 := Lib.hid l9
      have d15 : S 15 = .slice A k c := (hd 15 (by kernel_rfl)).2
      rw [d15]
      clear d15
      obtain ⟨A22, n22, c22, d22, e22, l22, H22⟩ := (hd 22 (by kernel_rfl)).2
      rw [d22]
      clear d22
      replace H22 := Lib.hid H22
      replace l22 := Lib.hid l22
      have d24 : S 24 = .slice D m d := (hd 24 (by kernel_rfl)).2
      rw [d24]
      clear d24
      clear hd
      refine ⟨fun K hK => ?_⟩
      go_wp2_with fail
      exact hK _ _ (GH.Gr.of ((Below.refl _ _).alloc (Nat.le_refl _) _) hb.below.size) (GH.pts_many _ [⟨A9, n9, c9, hdrS g ++ [kd, nb]⟩, ⟨A, k, c, l.take k⟩, ⟨A22, n22, c22, be mh 2⟩, ⟨D, m, d, g.data⟩] _ 4 rfl rfl (by
        intro p hp
        simp only [List.mem_cons, List.not_mem_nil, or_false] at hp
        rcases hp with rfl | rfl | rfl | rfl
        · exact ⟨H9.out, e9⟩
        · exact ⟨HT.out.gr hb, hkc⟩
        · exact ⟨H22.out, e22⟩
        · exact ⟨HD2.out.gr hb, hmd⟩) _ rfl)
    | 26, _, hd =>
      simp only [GH.mkL, List.getD_cons_succ, List.getD_cons_zero]
      have d0 : S 0 = .agg #[.int .u16 (g.src : Int), .int .u16 (g.dst : Int), .int .u32 (g.seq : Int), .int .u32 (g.ack : Int), .int .u8 (g.flags : Int), .slice A1 n1 c1, .slice D m d] := (hd 0 (by kernel_rfl)).2
      rw [d0]
      clear d0
      obtain ⟨A1, n1, c1, d1, e1, l1, H1⟩ := (hd 1 (by kernel_rfl)).2
      rw [d1]
      clear d1
      replace H1 := Lib.hid H1
      replace l1 := Lib.hid l1
      have d2 : S 2 = .pointer (some ⟨w.heap.size + 1, 0, none⟩) := (hd 2 (by kernel_rfl)).2
      rw [d2]
      clear d2
      have d3 : S 3 = .int .u8 (kd : Nat) := (hd 3 (by kernel_rfl)).2
      rw [d3]
      clear d3
      have d4 : S 4 = .agg #[.int .i64 1, .int .u64 (kd : Nat)] := (hd 4 (by kernel_rfl)).2
      rw [d4]
      clear d4
      have d5 : S 5 = .int .i64 (n : Nat) := (hd 5 (by kernel_rfl)).2
      rw [d5]
      clear d5
      have d6 : S 6 = .int .u8 (nb : Nat) := (hd 6 (by kernel_rfl)).2
      rw [d6]
      clear d6
      have d7 : S 7 = .agg #[.int .i64 1, .int .u64 (nb : Nat)] := (hd 7 (by kernel_rfl)).2
      rw [d7]
      clear d7
      obtain ⟨A8, c8, d8, e8, H8⟩ := (hd 8 (by kernel_rfl)).2
      rw [d8]
      clear d8
      replace H8 := Lib.hid H8
      obtain ⟨A9, n9, c9, d9, e9, l9, H9⟩ := (hd 9 (by kernel_rfl)).2
      rw [d9]
      clear d9
      replace H9 := Lib.hid H9
      replace l9 := Lib.hid l9
      have d10 : S 10 = .pointer (some ⟨w.heap.size + 1, 1, none⟩) := (hd 10 (by kernel_rfl)).2
      rw [d10]
      clear d10
      have d11 : S 11 = .slice A n c := (hd 11 (by kernel_rfl)).2
      rw [d11]
      clear d11
      have d12 : S 12 = .int .i64 (n : Nat) := (hd 12 (by kernel_rfl)).2
      rw [d12]
      clear d12
      have d13 : S 13 = .int .i64 ((n : Int) - 8) := (hd 13 (by kernel_rfl)).2
      rw [d13]
      clear d13
      have d14 : S 14 = .int .i64 (k : Nat) := (hd 14 (by kernel_rfl)).2
      rw [d14]
      clear d14
      have d15 : S 15 = .slice A k c := (hd 15 (by kernel_rfl)).2
      rw [d15]
      clear d15
      have d16 : S 16 = .pointer (some ⟨w.heap.size, 6, none⟩) := (hd 16 (by kernel_rfl)).2
      rw [d16]
      clear d16
      have d17 : S 17 = .slice D m d := (hd 17 (by kernel_rfl)).2
      rw [d17]
      clear d17
      have d18 : S 18 = .int .i64 (m : Nat) := (hd 18 (by kernel_rfl)).2
      rw [d18]
      clear d18
      have d19 : S 19 = .int .u16 (mh : Nat) := (hd 19 (by kernel_rfl)).2
      rw [d19]
      clear d19
      have d20 : S 20 = .agg #[.int .i64 2, .int .u64 (mh : Nat)] := (hd 20 (by kernel_rfl)).2
      rw [d20]
      clear d20
      obtain ⟨A21, c21, d21, e21, H21⟩ := (hd 21 (by kernel_rfl)).2
      rw [d21]
      clear d21
      replace H21 := Lib.hid H21
      obtain ⟨A22, n22, c22, d22, e22, l22, H22⟩ := (hd 22 (by kernel_rfl)).2
      rw [d22]
      clear d22
      replace H22 := Lib.hid H22
      replace l22 := Lib.hid l22
      have d23 : S 23 = .pointer (some ⟨w.heap.size, 6, none⟩) := (hd 23 (by kernel_rfl)).2
      rw [d23]
      clear d23
      have d24 : S 24 = .slice D m d := (hd 24 (by kernel_rfl)).2
      rw [d24]
      clear d24
      obtain ⟨A25, n25, c25, d25, e25, l25, H25⟩ := (hd 25 (by kernel_rfl)).2
      rw [d25]
      clear d25
      replace H25 := Lib.hid H25
      replace l25 := Lib.hid l25
      clear hd
      exact GH.st_val (by rfl) (by go_simp) ⟨_, _, _, rfl, e25, l25.out, H25.out⟩
    | nx + 27, hjx, _ => omega
  intro S w' hb hG
  simp only [GH.mkL, List.drop_succ_cons, List.drop_zero]
  obtain ⟨A26, n26, c26, d26, e26, l26, H26⟩ := hG 26 (by omega)
  rw [d26]
  clear d26
  replace H26 := Lib.hid H26
  replace l26 := Lib.hid l26
  clear hG
  have BF := Lib.hid (b1.out.trans (hb.below.mono b1.out.size))
  clear hb
  refine wpList_nil ?_
  go_wp2_with fail
  go_ret
  have e0 : coverP g kd l = [hdrS g ++ [kd, nb], l.take k, be mh 2, g.data] := by
    unfold coverP
    rw [hln.out, hlm.out, HNB.out, HMH.out, HKK.out]
  refine ⟨⟨_, _, _, rfl, e26, ?_, ?_⟩, BF.out⟩
  · rw [e0]; exact l26.out
  · rw [e0]; exact H26.out
end Go.Proofs.Ytbiimgfocgbdaaa
