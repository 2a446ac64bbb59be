/- Layer 10: what a sum covers, and the sum; the document's. -/
import Derived.Test.YtbiimgfocgbdaaaG13MacBack
import Derived.Test.YtbiimgfocgbdaaaG16MacBack
import Derived.Test.YtbiimgfocgbdaaaG23MacBack
import Derived.Test.YtbiimgfocgbdaaaG9MacBack

namespace Go.Proofs.Ytbiimgfocgbdaaa
open Go.RowKit
set_option linter.unusedVariables false
set_option linter.unusedSimpArgs false
/-- What a sum covers; the sum. -/
def coverL (g : Sg) (kd : Nat) (l : List Nat) : List Nat := (coverP g kd l).flatten
def tagN (k0 k1 : Nat) (g : Sg) (kd : Nat) (l : List Nat) : Nat := sumB k0 k1 (coverL g kd l)
/-- A segment and an option of it, in memory. -/
structure CovV (w : World) (v : Value) (g : Sg) (A : Option Addr) (n c kd : Nat) (l : List Nat) : Prop where
  seg : SegV w v g
  bd : g.bd
  row : Rd w w.heap.size 1 A n (ns .u8 l)
  cap : n ≤ c
  len : n ≤ 10000
  kind : kd < 256
  data : g.data.length ≤ 10000
  bytes : ∀ x ∈ l, x < 256
theorem CovV.gr {M : Bool} {B : Nat} {w w' : World} {v : Value} {g : Sg} {A : Option Addr} {n c kd : Nat} {l : List Nat} (h : CovV w v g A n c kd l) (hb : GH.Gr M B w w') : CovV w' v g A n c kd l :=
  ⟨h.seg.gr hb, h.bd, h.row.gr hb, h.cap, h.len, h.kind, h.data, h.bytes⟩
theorem CovV.into {w w' : World} {v : Value} {g : Sg} {A : Option Addr} {n c kd : Nat} {l : List Nat} (h : CovV w v g A n c kd l) (hb : Below w.heap.size w w') : CovV w' v g A n c kd l :=
  ⟨h.seg.into hb, h.bd, h.row.into hb, h.cap, h.len, h.kind, h.data, h.bytes⟩
theorem coverP_byte {g : Sg} {kd : Nat} {l : List Nat} (hg : g.bd) (hk : kd < 256) (hl : ∀ x ∈ l, x < 256) : ∀ bs ∈ coverP g kd l, ∀ x ∈ bs, x < 256 := by
  intro bs hbs x hx
  simp only [coverP, List.mem_cons, List.not_mem_nil, or_false] at hbs
  rcases hbs with rfl | rfl | rfl | rfl
  · rcases List.mem_append.1 hx with h | h
    · exact hdrS_byte g hg.flags x h
    · simp only [List.mem_cons, List.not_mem_nil, or_false] at h
      rcases h with rfl | rfl <;> omega
  · exact hl x (List.mem_of_mem_take hx)
  · exact be_byte _ _ x hx
  · exact hg.data x hx
theorem coverL_byte {g : Sg} {kd : Nat} {l : List Nat} (hg : g.bd) (hk : kd < 256) (hl : ∀ x ∈ l, x < 256) : ∀ x ∈ coverL g kd l, x < 256 := by
  intro x hx
  obtain ⟨bs, h1, h2⟩ := List.mem_flatten.1 hx
  exact coverP_byte hg hk hl bs h1 x h2
theorem coverL_eq (g : Sg) (kd : Nat) (l : List Nat) : coverL g kd l = hdrS g ++ [kd, l.length % 256] ++ l.take (l.length - 8) ++ be (g.data.length % 65536) 2 ++ g.data := by
  simp [coverL, coverP]
theorem coverL_len (g : Sg) (kd : Nat) (l : List Nat) : (coverL g kd l).length = 17 + (l.length - 8) + g.data.length := by
  rw [coverL_eq]
  simp [hdrS_len, be_len]
  omega
set_option maxRecDepth 20000 in
set_option maxHeartbeats 4000000 in
theorem mcover_any (v : Value) (g : Sg) (A : Option Addr) (n c kd : Nat) (l : List Nat) (w : World) (h : CovV w v g A n c kd l) :
    Calls Try.prog 11 #[v, .agg #[.int .u8 (kd : Nat), .slice A n c]] w fun e w' => (∃ A' n' c', e = .returned (.slice A' n' c') ∧ n' ≤ c' ∧ (coverL g kd l).length = n' ∧ Rd w' w'.heap.size 1 A' n' (ns .u8 (coverL g kd l))) ∧ Below w.heap.size w w' := by
  have HC := Lib.hid h
  obtain ⟨A1, n1, c1, D, m, d, lo, rfl, hO, ho, hD, hmd, hdm⟩ := h.seg
  have hnc := h.cap
  have hn := h.len
  clear hO ho hD hdm h
  unfold segCs at *
  go_enter Try.func11, Try.ntmps11
  go_upto_region 1 with fail
  have hk0 : Hid (Blk (w.alloc (.cells #[.int .u16 (g.src : Int), .int .u16 (g.dst : Int), .int .u32 (g.seq : Int), .int .u32 (g.ack : Int), .int .u8 (g.flags : Int), .slice A1 n1 c1, .slice D m d] 30)) (w.heap.size) 30 #[.int .u16 (g.src : Int), .int .u16 (g.dst : Int), .int .u32 (g.seq : Int), .int .u32 (g.ack : Int), .int .u8 (g.flags : Int), .slice A1 n1 c1, .slice D m d]) := Lib.hid ((Blk.new w 30 #[.int .u16 (g.src : Int), .int .u16 (g.dst : Int), .int .u32 (g.seq : Int), .int .u32 (g.ack : Int), .int .u8 (g.flags : Int), .slice A1 n1 c1, .slice D m d]))
  replace hk0 : Hid (Blk ((w.alloc (.cells #[.int .u16 (g.src : Int), .int .u16 (g.dst : Int), .int .u32 (g.seq : Int), .int .u32 (g.ack : Int), .int .u8 (g.flags : Int), .slice A1 n1 c1, .slice D m d] 30)).alloc (.cells #[.int .u8 (kd : Nat), .slice A n c] 45)) (w.heap.size) 30 #[.int .u16 (g.src : Int), .int .u16 (g.dst : Int), .int .u32 (g.seq : Int), .int .u32 (g.ack : Int), .int .u8 (g.flags : Int), .slice A1 n1 c1, .slice D m d]) := Lib.hid (hk0.out.alloc _)
  have hk1 : Hid (Blk ((w.alloc (.cells #[.int .u16 (g.src : Int), .int .u16 (g.dst : Int), .int .u32 (g.seq : Int), .int .u32 (g.ack : Int), .int .u8 (g.flags : Int), .slice A1 n1 c1, .slice D m d] 30)).alloc (.cells #[.int .u8 (kd : Nat), .slice A n c] 45)) (w.heap.size + 1) 45 #[.int .u8 (kd : Nat), .slice A n c]) := Lib.hid ((Blk.new (w.alloc (.cells #[.int .u16 (g.src : Int), .int .u16 (g.dst : Int), .int .u32 (g.seq : Int), .int .u32 (g.ack : Int), .int .u8 (g.flags : Int), .slice A1 n1 c1, .slice D m d] 30)) 45 #[.int .u8 (kd : Nat), .slice A n c]) |> fun h => by simpa using h)
  have b1 : Hid (Below w.heap.size w ((w.alloc (.cells #[.int .u16 (g.src : Int), .int .u16 (g.dst : Int), .int .u32 (g.seq : Int), .int .u32 (g.ack : Int), .int .u8 (g.flags : Int), .slice A1 n1 c1, .slice D m d] 30)).alloc (.cells #[.int .u8 (kd : Nat), .slice A n c] 45))) := Lib.hid (((Below.refl w.heap.size w).alloc (Nat.le_refl _) (.cells #[.int .u16 (g.src : Int), .int .u16 (g.dst : Int), .int .u32 (g.seq : Int), .int .u32 (g.ack : Int), .int .u8 (g.flags : Int), .slice A1 n1 c1, .slice D m d] 30)).alloc (by simp <;> omega) (.cells #[.int .u8 (kd : Nat), .slice A n c] 45))
  have hz : ((w.alloc (.cells #[.int .u16 (g.src : Int), .int .u16 (g.dst : Int), .int .u32 (g.seq : Int), .int .u32 (g.ack : Int), .int .u8 (g.flags : Int), .slice A1 n1 c1, .slice D m d] 30)).alloc (.cells #[.int .u8 (kd : Nat), .slice A n c] 45)).heap.size = w.heap.size + 2 := by simp
  generalize ((w.alloc (.cells #[.int .u16 (g.src : Int), .int .u16 (g.dst : Int), .int .u32 (g.seq : Int), .int .u32 (g.ack : Int), .int .u8 (g.flags : Int), .slice A1 n1 c1, .slice D m d] 30)).alloc (.cells #[.int .u8 (kd : Nat), .slice A n c] 45)) = w2 at hk0 hk1 b1 hz ⊢
  have HZ := Lib.hid hz
  clear hz
  replace HC := Lib.hid (HC.out.into b1.out)
  refine GH.wp_ghs (M := false) 5 ((GH.SP.eq (.agg #[.int .u16 (g.src : Int), .int .u16 (g.dst : Int), .int .u32 (g.seq : Int), .int .u32 (g.ack : Int), .int .u8 (g.flags : Int), .slice A1 n1 c1, .slice D m d])) :: (GH.SP.eq (.agg #[.int .u8 (kd : Nat), .slice A n c])) :: (GH.SP.pts (coverP g kd l)) :: (GH.SP.ns .u8 (coverL g kd l)) :: (GH.SP.ns .u8 (coverL g kd l)) :: []) (none :: none :: none :: none :: (some 4) :: (some 0) :: (some 1) :: (some 2) :: (some 3) :: []) [5, 6, 7, 8, 4] (by rfl) (by kernel_rfl) ?_ ?_ ?_
  · intro S jx v hjx
    match jx, hjx with
    | 0, _ => rfl
    | 1, _ => rfl
    | 2, _ => rfl
    | 3, _ => rfl
    | 4, _ => rfl
    | nx + 5, hjx => omega
  · intro jx hjx S w' hb hd
    match jx, hjx, hd with
    | 0, _, hd =>
      simp only [GH.mkL, List.getD_cons_succ, List.getD_cons_zero]
      clear hd
      exact GH.st_loads _ [.int .u16 (g.src : Int), .int .u16 (g.dst : Int), .int .u32 (g.seq : Int), .int .u32 (g.ack : Int), .int .u8 (g.flags : Int), .slice A1 n1 c1, .slice D m d] (by rfl) rfl rfl (((hk0.out.below hb.below hk0.out.lt)).loads 0 _ (by rfl)) (by kernel_rfl) (by kernel_rfl)
    | 1, _, hd =>
      simp only [GH.mkL, List.getD_cons_succ, List.getD_cons_zero]
      clear hd
      exact GH.st_loads _ [.int .u8 (kd : Nat), .slice A n c] (by rfl) rfl rfl (((hk1.out.below hb.below hk1.out.lt)).loads 0 _ (by rfl)) (by kernel_rfl) (by kernel_rfl)
    | 2, _, hd =>
      simp only [GH.mkL, List.getD_cons_succ, List.getD_cons_zero]
      have d0 : S 0 = .agg #[.int .u16 (g.src : Int), .int .u16 (g.dst : Int), .int .u32 (g.seq : Int), .int .u32 (g.ack : Int), .int .u8 (g.flags : Int), .slice A1 n1 c1, .slice D m d] := (hd 0 (by kernel_rfl)).2
      rw [d0]
      clear d0
      have d1 : S 1 = .agg #[.int .u8 (kd : Nat), .slice A n c] := (hd 1 (by kernel_rfl)).2
      rw [d1]
      clear d1
      clear hd
      refine GH.st_call (by rfl) hb.below.size (by go_simp) ((mparts_any _ g A n c kd l w' (HC.out.gr hb).seg HC.out.bd (HC.out.gr hb).row hnc (by omega) HC.out.kind).mono ?_)
      rintro e w9 ⟨⟨A9, n9, c9, rfl, e9, l9, h9⟩, hb9⟩
      exact ⟨_, rfl, hb9, ⟨_, _, _, rfl, e9, l9, h9⟩⟩
    | 3, _, hd =>
      simp only [GH.mkL, List.getD_cons_succ, List.getD_cons_zero]
      obtain ⟨A2, n2, c2, d2, e2, l2, H2⟩ := (hd 2 (by kernel_rfl)).2
      rw [d2]
      clear d2
      replace H2 := Lib.hid H2
      replace l2 := Lib.hid l2
      clear hd
      refine GH.st_call (by rfl) hb.below.size (by go_simp) ((concat_any n2 c2 A2 _ w' H2.out e2 (by have := l2.out; simp [coverP] at this; omega) (show (coverL g kd l).length ≤ _ from by rw [coverL_len]; have := HC.out.row.natLen; have := HC.out.data; omega)).mono ?_)
      rintro e w9 ⟨v, rfl, hN, hb9⟩
      exact ⟨_, rfl, hb9, GH.ns_of_own hN⟩
    | 4, _, hd =>
      simp only [GH.mkL, List.getD_cons_succ, List.getD_cons_zero]
      have d0 : S 0 = .agg #[.int .u16 (g.src : Int), .int .u16 (g.dst : Int), .int .u32 (g.seq : Int), .int .u32 (g.ack : Int), .int .u8 (g.flags : Int), .slice A1 n1 c1, .slice D m d] := (hd 0 (by kernel_rfl)).2
      rw [d0]
      clear d0
      have d1 : S 1 = .agg #[.int .u8 (kd : Nat), .slice A n c] := (hd 1 (by kernel_rfl)).2
      rw [d1]
      clear d1
      obtain ⟨A2, n2, c2, d2, e2, l2, H2⟩ := (hd 2 (by kernel_rfl)).2
      rw [d2]
      clear d2
      replace H2 := Lib.hid H2
      replace l2 := Lib.hid l2
      obtain ⟨A3, n3, c3, d3, e3, l3, H3⟩ := (hd 3 (by kernel_rfl)).2
      rw [d3]
      clear d3
      replace H3 := Lib.hid H3
      replace l3 := Lib.hid l3
      clear hd
      exact GH.st_val (by rfl) (by go_simp) ⟨_, _, _, rfl, e3, l3.out, H3.out⟩
    | nx + 5, hjx, _ => omega
  intro S w' hb hG
  simp only [GH.mkL, List.drop_succ_cons, List.drop_zero]
  obtain ⟨A4, n4, c4, d4, e4, l4, H4⟩ := hG 4 (by omega)
  rw [d4]
  clear d4
  replace H4 := Lib.hid H4
  replace l4 := Lib.hid l4
  clear hG
  have BF := Lib.hid (b1.out.trans (hb.below.mono b1.out.size))
  clear hb
  refine wpList_nil ?_
  go_wp2_with fail
  go_ret
  exact ⟨⟨_, _, _, rfl, e4, l4.out, H4.out⟩, BF.out⟩
set_option maxRecDepth 20000 in
set_option maxHeartbeats 4000000 in
theorem mtag_any (k0 k1 : Nat) (v : Value) (g : Sg) (A : Option Addr) (n c kd : Nat) (l : List Nat) (w : World) (h0 : k0 < 18446744073709551616) (h1 : k1 < 18446744073709551616) (h : CovV w v g A n c kd l) :
    Calls Try.prog 13 #[.agg #[.int .u64 (k0 : Nat), .int .u64 (k1 : Nat)], v, .agg #[.int .u8 (kd : Nat), .slice A n c]] w fun e w' => e = .returned (.int .u64 (tagN k0 k1 g kd l : Nat)) ∧ Below w.heap.size w w' := by
  have HC := Lib.hid h
  obtain ⟨A1, n1, c1, D, m, d, lo, rfl, hO, ho, hD, hmd, hdm⟩ := h.seg
  have hnc := h.cap
  have hn := h.len
  clear hO ho hD hdm h
  unfold segCs at *
  go_enter Try.func13, Try.ntmps13
  go_upto_region 1 with fail
  have hk0 : Hid (Blk (w.alloc (.cells #[.int .u64 (k0 : Nat), .int .u64 (k1 : Nat)] 24)) (w.heap.size) 24 #[.int .u64 (k0 : Nat), .int .u64 (k1 : Nat)]) := Lib.hid ((Blk.new w 24 #[.int .u64 (k0 : Nat), .int .u64 (k1 : Nat)]))
  replace hk0 : Hid (Blk ((w.alloc (.cells #[.int .u64 (k0 : Nat), .int .u64 (k1 : Nat)] 24)).alloc (.cells #[.int .u16 (g.src : Int), .int .u16 (g.dst : Int), .int .u32 (g.seq : Int), .int .u32 (g.ack : Int), .int .u8 (g.flags : Int), .slice A1 n1 c1, .slice D m d] 30)) (w.heap.size) 24 #[.int .u64 (k0 : Nat), .int .u64 (k1 : Nat)]) := Lib.hid (hk0.out.alloc _)
  replace hk0 : Hid (Blk (((w.alloc (.cells #[.int .u64 (k0 : Nat), .int .u64 (k1 : Nat)] 24)).alloc (.cells #[.int .u16 (g.src : Int), .int .u16 (g.dst : Int), .int .u32 (g.seq : Int), .int .u32 (g.ack : Int), .int .u8 (g.flags : Int), .slice A1 n1 c1, .slice D m d] 30)).alloc (.cells #[.int .u8 (kd : Nat), .slice A n c] 45)) (w.heap.size) 24 #[.int .u64 (k0 : Nat), .int .u64 (k1 : Nat)]) := Lib.hid (hk0.out.alloc _)
  have hk1 : Hid (Blk ((w.alloc (.cells #[.int .u64 (k0 : Nat), .int .u64 (k1 : Nat)] 24)).alloc (.cells #[.int .u16 (g.src : Int), .int .u16 (g.dst : Int), .int .u32 (g.seq : Int), .int .u32 (g.ack : Int), .int .u8 (g.flags : Int), .slice A1 n1 c1, .slice D m d] 30)) (w.heap.size + 1) 30 #[.int .u16 (g.src : Int), .int .u16 (g.dst : Int), .int .u32 (g.seq : Int), .int .u32 (g.ack : Int), .int .u8 (g.flags : Int), .slice A1 n1 c1, .slice D m d]) := Lib.hid ((Blk.new (w.alloc (.cells #[.int .u64 (k0 : Nat), .int .u64 (k1 : Nat)] 24)) 30 #[.int .u16 (g.src : Int), .int .u16 (g.dst : Int), .int .u32 (g.seq : Int), .int .u32 (g.ack : Int), .int .u8 (g.flags : Int), .slice A1 n1 c1, .slice D m d]) |> fun h => by simpa using h)
  replace hk1 : Hid (Blk (((w.alloc (.cells #[.int .u64 (k0 : Nat), .int .u64 (k1 : Nat)] 24)).alloc (.cells #[.int .u16 (g.src : Int), .int .u16 (g.dst : Int), .int .u32 (g.seq : Int), .int .u32 (g.ack : Int), .int .u8 (g.flags : Int), .slice A1 n1 c1, .slice D m d] 30)).alloc (.cells #[.int .u8 (kd : Nat), .slice A n c] 45)) (w.heap.size + 1) 30 #[.int .u16 (g.src : Int), .int .u16 (g.dst : Int), .int .u32 (g.seq : Int), .int .u32 (g.ack : Int), .int .u8 (g.flags : Int), .slice A1 n1 c1, .slice D m d]) := Lib.hid (hk1.out.alloc _)
  have hk2 : Hid (Blk (((w.alloc (.cells #[.int .u64 (k0 : Nat), .int .u64 (k1 : Nat)] 24)).alloc (.cells #[.int .u16 (g.src : Int), .int .u16 (g.dst : Int), .int .u32 (g.seq : Int), .int .u32 (g.ack : Int), .int .u8 (g.flags : Int), .slice A1 n1 c1, .slice D m d] 30)).alloc (.cells #[.int .u8 (kd : Nat), .slice A n c] 45)) (w.heap.size + 2) 45 #[.int .u8 (kd : Nat), .slice A n c]) := Lib.hid ((Blk.new ((w.alloc (.cells #[.int .u64 (k0 : Nat), .int .u64 (k1 : Nat)] 24)).alloc (.cells #[.int .u16 (g.src : Int), .int .u16 (g.dst : Int), .int .u32 (g.seq : Int), .int .u32 (g.ack : Int), .int .u8 (g.flags : Int), .slice A1 n1 c1, .slice D m d] 30)) 45 #[.int .u8 (kd : Nat), .slice A n c]) |> fun h => by simpa using h)
  have b1 : Hid (Below w.heap.size w (((w.alloc (.cells #[.int .u64 (k0 : Nat), .int .u64 (k1 : Nat)] 24)).alloc (.cells #[.int .u16 (g.src : Int), .int .u16 (g.dst : Int), .int .u32 (g.seq : Int), .int .u32 (g.ack : Int), .int .u8 (g.flags : Int), .slice A1 n1 c1, .slice D m d] 30)).alloc (.cells #[.int .u8 (kd : Nat), .slice A n c] 45))) := Lib.hid ((((Below.refl w.heap.size w).alloc (Nat.le_refl _) (.cells #[.int .u64 (k0 : Nat), .int .u64 (k1 : Nat)] 24)).alloc (by simp <;> omega) (.cells #[.int .u16 (g.src : Int), .int .u16 (g.dst : Int), .int .u32 (g.seq : Int), .int .u32 (g.ack : Int), .int .u8 (g.flags : Int), .slice A1 n1 c1, .slice D m d] 30)).alloc (by simp <;> omega) (.cells #[.int .u8 (kd : Nat), .slice A n c] 45))
  have hz : (((w.alloc (.cells #[.int .u64 (k0 : Nat), .int .u64 (k1 : Nat)] 24)).alloc (.cells #[.int .u16 (g.src : Int), .int .u16 (g.dst : Int), .int .u32 (g.seq : Int), .int .u32 (g.ack : Int), .int .u8 (g.flags : Int), .slice A1 n1 c1, .slice D m d] 30)).alloc (.cells #[.int .u8 (kd : Nat), .slice A n c] 45)).heap.size = w.heap.size + 3 := by simp
  generalize (((w.alloc (.cells #[.int .u64 (k0 : Nat), .int .u64 (k1 : Nat)] 24)).alloc (.cells #[.int .u16 (g.src : Int), .int .u16 (g.dst : Int), .int .u32 (g.seq : Int), .int .u32 (g.ack : Int), .int .u8 (g.flags : Int), .slice A1 n1 c1, .slice D m d] 30)).alloc (.cells #[.int .u8 (kd : Nat), .slice A n c] 45)) = w2 at hk0 hk1 hk2 b1 hz ⊢
  have HZ := Lib.hid hz
  clear hz
  replace HC := Lib.hid (HC.out.into b1.out)
  refine GH.wp_ghl (M := false) 6 ((GH.SP.eq (.agg #[.int .u64 (k0 : Nat), .int .u64 (k1 : Nat)])) :: (GH.SP.eq (.agg #[.int .u16 (g.src : Int), .int .u16 (g.dst : Int), .int .u32 (g.seq : Int), .int .u32 (g.ack : Int), .int .u8 (g.flags : Int), .slice A1 n1 c1, .slice D m d])) :: (GH.SP.eq (.agg #[.int .u8 (kd : Nat), .slice A n c])) :: (GH.SP.pts (coverP g kd l)) :: (GH.SP.eq (.int .u64 (tagN k0 k1 g kd l : Nat))) :: (GH.SP.eq (.int .u64 (tagN k0 k1 g kd l : Nat))) :: []) (none :: none :: none :: none :: none :: none :: (some 5) :: (some 0) :: (some 1) :: (some 2) :: (some 3) :: (some 4) :: []) [7, 8, 9, 10, 11, 6] (by rfl) (by kernel_rfl) (by kernel_rfl) ?_ ?_ ?_
  · intro S jx v hjx
    match jx, hjx with
    | 0, _ => rfl
    | 1, _ => rfl
    | 2, _ => rfl
    | 3, _ => rfl
    | 4, _ => rfl
    | 5, _ => rfl
    | nx + 6, hjx => omega
  · intro jx hjx S w' hb hd
    match jx, hjx, hd with
    | 0, _, hd =>
      simp only [GH.mkL, List.getD_cons_succ, List.getD_cons_zero]
      clear hd
      exact GH.st_loads _ [.int .u64 (k0 : Nat), .int .u64 (k1 : Nat)] (by rfl) rfl rfl (((hk0.out.below hb.below hk0.out.lt)).loads 0 _ (by rfl)) (by kernel_rfl) (by kernel_rfl)
    | 1, _, hd =>
      simp only [GH.mkL, List.getD_cons_succ, List.getD_cons_zero]
      clear hd
      exact GH.st_loads _ [.int .u16 (g.src : Int), .int .u16 (g.dst : Int), .int .u32 (g.seq : Int), .int .u32 (g.ack : Int), .int .u8 (g.flags : Int), .slice A1 n1 c1, .slice D m d] (by rfl) rfl rfl (((hk1.out.below hb.below hk1.out.lt)).loads 0 _ (by rfl)) (by kernel_rfl) (by kernel_rfl)
    | 2, _, hd =>
      simp only [GH.mkL, List.getD_cons_succ, List.getD_cons_zero]
      clear hd
      exact GH.st_loads _ [.int .u8 (kd : Nat), .slice A n c] (by rfl) rfl rfl (((hk2.out.below hb.below hk2.out.lt)).loads 0 _ (by rfl)) (by kernel_rfl) (by kernel_rfl)
    | 3, _, hd =>
      simp only [GH.mkL, List.getD_cons_succ, List.getD_cons_zero]
      have d1 : S 1 = .agg #[.int .u16 (g.src : Int), .int .u16 (g.dst : Int), .int .u32 (g.seq : Int), .int .u32 (g.ack : Int), .int .u8 (g.flags : Int), .slice A1 n1 c1, .slice D m d] := (hd 1 (by kernel_rfl)).2
      rw [d1]
      clear d1
      have d2 : S 2 = .agg #[.int .u8 (kd : Nat), .slice A n c] := (hd 2 (by kernel_rfl)).2
      rw [d2]
      clear d2
      clear hd
      refine GH.st_call (by rfl) hb.below.size (by go_simp) ((mparts_any _ g A n c kd l w' (HC.out.gr hb).seg HC.out.bd (HC.out.gr hb).row hnc (by omega) HC.out.kind).mono ?_)
      rintro e w9 ⟨⟨A9, n9, c9, rfl, e9, l9, h9⟩, hb9⟩
      exact ⟨_, rfl, hb9, ⟨_, _, _, rfl, e9, l9, h9⟩⟩
    | 4, _, hd =>
      simp only [GH.mkL, List.getD_cons_succ, List.getD_cons_zero]
      have d0 : S 0 = .agg #[.int .u64 (k0 : Nat), .int .u64 (k1 : Nat)] := (hd 0 (by kernel_rfl)).2
      rw [d0]
      clear d0
      obtain ⟨A3, n3, c3, d3, e3, l3, H3⟩ := (hd 3 (by kernel_rfl)).2
      rw [d3]
      clear d3
      replace H3 := Lib.hid H3
      replace l3 := Lib.hid l3
      clear hd
      refine GH.st_call (by rfl) hb.below.size (by go_simp) ((sum_any k0 k1 n3 c3 A3 _ w' h0 h1 H3.out e3 (by have := l3.out; simp [coverP] at this; omega) (coverP_byte HC.out.bd HC.out.kind HC.out.bytes) (show (coverL g kd l).length < _ from by rw [coverL_len]; have := HC.out.row.natLen; have := HC.out.data; omega)).mono ?_)
      rintro e w9 ⟨rfl, hb9⟩
      exact ⟨_, rfl, hb9, rfl⟩
    | 5, _, hd =>
      simp only [GH.mkL, List.getD_cons_succ, List.getD_cons_zero]
      have d0 : S 0 = .agg #[.int .u64 (k0 : Nat), .int .u64 (k1 : Nat)] := (hd 0 (by kernel_rfl)).2
      rw [d0]
      clear d0
      have d1 : S 1 = .agg #[.int .u16 (g.src : Int), .int .u16 (g.dst : Int), .int .u32 (g.seq : Int), .int .u32 (g.ack : Int), .int .u8 (g.flags : Int), .slice A1 n1 c1, .slice D m d] := (hd 1 (by kernel_rfl)).2
      rw [d1]
      clear d1
      have d2 : S 2 = .agg #[.int .u8 (kd : Nat), .slice A n c] := (hd 2 (by kernel_rfl)).2
      rw [d2]
      clear d2
      obtain ⟨A3, n3, c3, d3, e3, l3, H3⟩ := (hd 3 (by kernel_rfl)).2
      rw [d3]
      clear d3
      replace H3 := Lib.hid H3
      replace l3 := Lib.hid l3
      have d4 : S 4 = .int .u64 (tagN k0 k1 g kd l : Nat) := (hd 4 (by kernel_rfl)).2
      rw [d4]
      clear d4
      clear hd
      refine GH.st_eq (by rfl) ?_
      go_simp
      (try with_reducible rfl)
    | nx + 6, hjx, _ => omega
  intro S w' hb hG
  simp only [GH.mkL, List.drop_succ_cons, List.drop_zero]
  have d5 : S 5 = .int .u64 (tagN k0 k1 g kd l : Nat) := hG 5 (by omega)
  rw [d5]
  clear d5
  clear hG
  have BF := Lib.hid (b1.out.trans (hb.below.mono b1.out.size))
  clear hb
  refine wpList_nil ?_
  go_wp2_with fail
  go_ret
  exact ⟨rfl, BF.out⟩
set_option maxRecDepth 20000 in
set_option maxHeartbeats 4000000 in
theorem mright_any (k0 k1 t : Nat) (v : Value) (g : Sg) (A : Option Addr) (n c kd : Nat) (l : List Nat) (w : World) (h0 : k0 < 18446744073709551616) (h1 : k1 < 18446744073709551616) (h : CovV w v g A n c kd l) :
    Calls Try.prog 15 #[.agg #[.int .u64 (k0 : Nat), .int .u64 (k1 : Nat)], v, .agg #[.int .u8 (kd : Nat), .slice A n c], .int .u64 (t : Nat)] w fun e w' => e = .returned (.bool (decide (t = tagN k0 k1 g kd l))) ∧ Below w.heap.size w w' := by
  have HC := Lib.hid h
  obtain ⟨A1, n1, c1, D, m, d, lo, rfl, hO, ho, hD, hmd, hdm⟩ := h.seg
  have hnc := h.cap
  have hn := h.len
  clear hO ho hD hdm h
  unfold segCs at *
  go_enter Try.func15, Try.ntmps15
  go_upto_region 1 with fail
  have hk0 : Hid (Blk (w.alloc (.cells #[.int .u64 (k0 : Nat), .int .u64 (k1 : Nat)] 24)) (w.heap.size) 24 #[.int .u64 (k0 : Nat), .int .u64 (k1 : Nat)]) := Lib.hid ((Blk.new w 24 #[.int .u64 (k0 : Nat), .int .u64 (k1 : Nat)]))
  replace hk0 : Hid (Blk ((w.alloc (.cells #[.int .u64 (k0 : Nat), .int .u64 (k1 : Nat)] 24)).alloc (.cells #[.int .u16 (g.src : Int), .int .u16 (g.dst : Int), .int .u32 (g.seq : Int), .int .u32 (g.ack : Int), .int .u8 (g.flags : Int), .slice A1 n1 c1, .slice D m d] 30)) (w.heap.size) 24 #[.int .u64 (k0 : Nat), .int .u64 (k1 : Nat)]) := Lib.hid (hk0.out.alloc _)
  replace hk0 : Hid (Blk (((w.alloc (.cells #[.int .u64 (k0 : Nat), .int .u64 (k1 : Nat)] 24)).alloc (.cells #[.int .u16 (g.src : Int), .int .u16 (g.dst : Int), .int .u32 (g.seq : Int), .int .u32 (g.ack : Int), .int .u8 (g.flags : Int), .slice A1 n1 c1, .slice D m d] 30)).alloc (.cells #[.int .u8 (kd : Nat), .slice A n c] 45)) (w.heap.size) 24 #[.int .u64 (k0 : Nat), .int .u64 (k1 : Nat)]) := Lib.hid (hk0.out.alloc _)
  have hk1 : Hid (Blk ((w.alloc (.cells #[.int .u64 (k0 : Nat), .int .u64 (k1 : Nat)] 24)).alloc (.cells #[.int .u16 (g.src : Int), .int .u16 (g.dst : Int), .int .u32 (g.seq : Int), .int .u32 (g.ack : Int), .int .u8 (g.flags : Int), .slice A1 n1 c1, .slice D m d] 30)) (w.heap.size + 1) 30 #[.int .u16 (g.src : Int), .int .u16 (g.dst : Int), .int .u32 (g.seq : Int), .int .u32 (g.ack : Int), .int .u8 (g.flags : Int), .slice A1 n1 c1, .slice D m d]) := Lib.hid ((Blk.new (w.alloc (.cells #[.int .u64 (k0 : Nat), .int .u64 (k1 : Nat)] 24)) 30 #[.int .u16 (g.src : Int), .int .u16 (g.dst : Int), .int .u32 (g.seq : Int), .int .u32 (g.ack : Int), .int .u8 (g.flags : Int), .slice A1 n1 c1, .slice D m d]) |> fun h => by simpa using h)
  replace hk1 : Hid (Blk (((w.alloc (.cells #[.int .u64 (k0 : Nat), .int .u64 (k1 : Nat)] 24)).alloc (.cells #[.int .u16 (g.src : Int), .int .u16 (g.dst : Int), .int .u32 (g.seq : Int), .int .u32 (g.ack : Int), .int .u8 (g.flags : Int), .slice A1 n1 c1, .slice D m d] 30)).alloc (.cells #[.int .u8 (kd : Nat), .slice A n c] 45)) (w.heap.size + 1) 30 #[.int .u16 (g.src : Int), .int .u16 (g.dst : Int), .int .u32 (g.seq : Int), .int .u32 (g.ack : Int), .int .u8 (g.flags : Int), .slice A1 n1 c1, .slice D m d]) := Lib.hid (hk1.out.alloc _)
  have hk2 : Hid (Blk (((w.alloc (.cells #[.int .u64 (k0 : Nat), .int .u64 (k1 : Nat)] 24)).alloc (.cells #[.int .u16 (g.src : Int), .int .u16 (g.dst : Int), .int .u32 (g.seq : Int), .int .u32 (g.ack : Int), .int .u8 (g.flags : Int), .slice A1 n1 c1, .slice D m d] 30)).alloc (.cells #[.int .u8 (kd : Nat), .slice A n c] 45)) (w.heap.size + 2) 45 #[.int .u8 (kd : Nat), .slice A n c]) := Lib.hid ((Blk.new ((w.alloc (.cells #[.int .u64 (k0 : Nat), .int .u64 (k1 : Nat)] 24)).alloc (.cells #[.int .u16 (g.src : Int), .int .u16 (g.dst : Int), .int .u32 (g.seq : Int), .int .u32 (g.ack : Int), .int .u8 (g.flags : Int), .slice A1 n1 c1, .slice D m d] 30)) 45 #[.int .u8 (kd : Nat), .slice A n c]) |> fun h => by simpa using h)
  have b1 : Hid (Below w.heap.size w (((w.alloc (.cells #[.int .u64 (k0 : Nat), .int .u64 (k1 : Nat)] 24)).alloc (.cells #[.int .u16 (g.src : Int), .int .u16 (g.dst : Int), .int .u32 (g.seq : Int), .int .u32 (g.ack : Int), .int .u8 (g.flags : Int), .slice A1 n1 c1, .slice D m d] 30)).alloc (.cells #[.int .u8 (kd : Nat), .slice A n c] 45))) := Lib.hid ((((Below.refl w.heap.size w).alloc (Nat.le_refl _) (.cells #[.int .u64 (k0 : Nat), .int .u64 (k1 : Nat)] 24)).alloc (by simp <;> omega) (.cells #[.int .u16 (g.src : Int), .int .u16 (g.dst : Int), .int .u32 (g.seq : Int), .int .u32 (g.ack : Int), .int .u8 (g.flags : Int), .slice A1 n1 c1, .slice D m d] 30)).alloc (by simp <;> omega) (.cells #[.int .u8 (kd : Nat), .slice A n c] 45))
  have hz : (((w.alloc (.cells #[.int .u64 (k0 : Nat), .int .u64 (k1 : Nat)] 24)).alloc (.cells #[.int .u16 (g.src : Int), .int .u16 (g.dst : Int), .int .u32 (g.seq : Int), .int .u32 (g.ack : Int), .int .u8 (g.flags : Int), .slice A1 n1 c1, .slice D m d] 30)).alloc (.cells #[.int .u8 (kd : Nat), .slice A n c] 45)).heap.size = w.heap.size + 3 := by simp
  generalize (((w.alloc (.cells #[.int .u64 (k0 : Nat), .int .u64 (k1 : Nat)] 24)).alloc (.cells #[.int .u16 (g.src : Int), .int .u16 (g.dst : Int), .int .u32 (g.seq : Int), .int .u32 (g.ack : Int), .int .u8 (g.flags : Int), .slice A1 n1 c1, .slice D m d] 30)).alloc (.cells #[.int .u8 (kd : Nat), .slice A n c] 45)) = w2 at hk0 hk1 hk2 b1 hz ⊢
  have HZ := Lib.hid hz
  clear hz
  replace HC := Lib.hid (HC.out.into b1.out)
  have HTG : ∀ z : Nat, ((t : Int) == (z : Int)) = decide (t = z) := fun z => by
    rw [Bool.eq_iff_iff, beq_iff_eq, decide_eq_true_eq]
    omega
  refine GH.wp_ghs (M := false) 7 ((GH.SP.eq (.int .u64 (t : Nat))) :: (GH.SP.eq (.agg #[.int .u64 (k0 : Nat), .int .u64 (k1 : Nat)])) :: (GH.SP.eq (.agg #[.int .u16 (g.src : Int), .int .u16 (g.dst : Int), .int .u32 (g.seq : Int), .int .u32 (g.ack : Int), .int .u8 (g.flags : Int), .slice A1 n1 c1, .slice D m d])) :: (GH.SP.eq (.agg #[.int .u8 (kd : Nat), .slice A n c])) :: (GH.SP.eq (.int .u64 (tagN k0 k1 g kd l : Nat))) :: (GH.SP.eq (.bool (decide (t = tagN k0 k1 g kd l)))) :: (GH.SP.eq (.bool (decide (t = tagN k0 k1 g kd l)))) :: []) (none :: none :: none :: none :: none :: none :: none :: none :: (some 6) :: (some 0) :: (some 1) :: (some 2) :: (some 3) :: (some 4) :: (some 5) :: []) [9, 10, 11, 12, 13, 14, 8] (by rfl) (by kernel_rfl) ?_ ?_ ?_
  · intro S jx v hjx
    match jx, hjx with
    | 0, _ => rfl
    | 1, _ => rfl
    | 2, _ => rfl
    | 3, _ => rfl
    | 4, _ => rfl
    | 5, _ => rfl
    | 6, _ => rfl
    | nx + 7, hjx => omega
  · intro jx hjx S w' hb hd
    match jx, hjx, hd with
    | 0, _, hd =>
      simp only [GH.mkL, List.getD_cons_succ, List.getD_cons_zero]
      clear hd
      refine GH.st_eq (by rfl) ?_
      go_simp
      (try with_reducible rfl)
    | 1, _, hd =>
      simp only [GH.mkL, List.getD_cons_succ, List.getD_cons_zero]
      clear hd
      exact GH.st_loads _ [.int .u64 (k0 : Nat), .int .u64 (k1 : Nat)] (by rfl) rfl rfl (((hk0.out.below hb.below hk0.out.lt)).loads 0 _ (by rfl)) (by kernel_rfl) (by kernel_rfl)
    | 2, _, hd =>
      simp only [GH.mkL, List.getD_cons_succ, List.getD_cons_zero]
      clear hd
      exact GH.st_loads _ [.int .u16 (g.src : Int), .int .u16 (g.dst : Int), .int .u32 (g.seq : Int), .int .u32 (g.ack : Int), .int .u8 (g.flags : Int), .slice A1 n1 c1, .slice D m d] (by rfl) rfl rfl (((hk1.out.below hb.below hk1.out.lt)).loads 0 _ (by rfl)) (by kernel_rfl) (by kernel_rfl)
    | 3, _, hd =>
      simp only [GH.mkL, List.getD_cons_succ, List.getD_cons_zero]
      clear hd
      exact GH.st_loads _ [.int .u8 (kd : Nat), .slice A n c] (by rfl) rfl rfl (((hk2.out.below hb.below hk2.out.lt)).loads 0 _ (by rfl)) (by kernel_rfl) (by kernel_rfl)
    | 4, _, hd =>
      simp only [GH.mkL, List.getD_cons_succ, List.getD_cons_zero]
      have d1 : S 1 = .agg #[.int .u64 (k0 : Nat), .int .u64 (k1 : Nat)] := (hd 1 (by kernel_rfl)).2
      rw [d1]
      clear d1
      have d2 : S 2 = .agg #[.int .u16 (g.src : Int), .int .u16 (g.dst : Int), .int .u32 (g.seq : Int), .int .u32 (g.ack : Int), .int .u8 (g.flags : Int), .slice A1 n1 c1, .slice D m d] := (hd 2 (by kernel_rfl)).2
      rw [d2]
      clear d2
      have d3 : S 3 = .agg #[.int .u8 (kd : Nat), .slice A n c] := (hd 3 (by kernel_rfl)).2
      rw [d3]
      clear d3
      clear hd
      refine GH.st_call (by rfl) hb.below.size (by go_simp) ((mtag_any k0 k1 _ g A n c kd l w' h0 h1 (HC.out.gr hb)).mono ?_)
      rintro e w9 ⟨rfl, hb9⟩
      exact ⟨_, rfl, hb9, rfl⟩
    | 5, _, hd =>
      simp only [GH.mkL, List.getD_cons_succ, List.getD_cons_zero]
      have d0 : S 0 = .int .u64 (t : Nat) := (hd 0 (by kernel_rfl)).2
      rw [d0]
      clear d0
      have d4 : S 4 = .int .u64 (tagN k0 k1 g kd l : Nat) := (hd 4 (by kernel_rfl)).2
      rw [d4]
      clear d4
      clear hd
      refine GH.st_eq (by rfl) ?_
      generalize tagN k0 k1 g kd l = z
      rw [← HTG z]
      go_simp
      (try with_reducible rfl)
    | 6, _, hd =>
      simp only [GH.mkL, List.getD_cons_succ, List.getD_cons_zero]
      have d0 : S 0 = .int .u64 (t : Nat) := (hd 0 (by kernel_rfl)).2
      rw [d0]
      clear d0
      have d1 : S 1 = .agg #[.int .u64 (k0 : Nat), .int .u64 (k1 : Nat)] := (hd 1 (by kernel_rfl)).2
      rw [d1]
      clear d1
      have d2 : S 2 = .agg #[.int .u16 (g.src : Int), .int .u16 (g.dst : Int), .int .u32 (g.seq : Int), .int .u32 (g.ack : Int), .int .u8 (g.flags : Int), .slice A1 n1 c1, .slice D m d] := (hd 2 (by kernel_rfl)).2
      rw [d2]
      clear d2
      have d3 : S 3 = .agg #[.int .u8 (kd : Nat), .slice A n c] := (hd 3 (by kernel_rfl)).2
      rw [d3]
      clear d3
      have d4 : S 4 = .int .u64 (tagN k0 k1 g kd l : Nat) := (hd 4 (by kernel_rfl)).2
      rw [d4]
      clear d4
      have d5 : S 5 = .bool (decide (t = tagN k0 k1 g kd l)) := (hd 5 (by kernel_rfl)).2
      rw [d5]
      clear d5
      clear hd
      refine GH.st_eq (by rfl) ?_
      go_simp
      (try with_reducible rfl)
    | nx + 7, hjx, _ => omega
  intro S w' hb hG
  simp only [GH.mkL, List.drop_succ_cons, List.drop_zero]
  have d6 : S 6 = .bool (decide (t = tagN k0 k1 g kd l)) := hG 6 (by omega)
  rw [d6]
  clear d6
  clear hG
  have BF := Lib.hid (b1.out.trans (hb.below.mono b1.out.size))
  clear hb
  refine wpList_nil ?_
  go_wp2_with fail
  go_ret
  exact ⟨rfl, BF.out⟩
theorem be_low (a : Nat) : be (a % 65536) 2 = be a 2 := by
  simp only [be]
  congr 1
  · congr 1
    congr 1
    omega
  · congr 1
    omega
set_option maxRecDepth 20000 in
set_option maxHeartbeats 4000000 in
theorem rcover_any (v : Value) (g : Sg) (A : Option Addr) (n c kd : Nat) (l : List Nat) (w : World) (h : CovV w v g A n c kd l) :
    Calls Try.prog 12 #[v, .int .u8 (kd : Nat), .slice A n c] w fun e w' => ∃ v', e = .returned v' ∧ Nats w' 5 .u8 w.heap.size v' (coverL g kd l) ∧ Below w.heap.size w w' := by
  have HC := Lib.hid h
  obtain ⟨A1, n1, c1, D, m, d, lo, rfl, hO, ho, hD, hmd, hdm⟩ := h.seg
  have hnc := h.cap
  have hn := h.len
  have HD := Lib.hid hD
  have HR := Lib.hid h.row
  have hln := Lib.hid h.row.natLen
  have hlm := Lib.hid hD.natLen
  have hm : m ≤ 10000 := by rw [← hlm.out]; exact h.data
  clear hO ho hD hdm h
  unfold segCs at *
  have b1 := Lib.hid ((Below.refl w.heap.size w).alloc (Nat.le_refl _) (.cells #[.int .u16 (g.src : Int), .int .u16 (g.dst : Int), .int .u32 (g.seq : Int), .int .u32 (g.ack : Int), .int .u8 (g.flags : Int), .slice A1 n1 c1, .slice D m d] 30))
  have k1 := Lib.hid (Blk.new w 30 #[.int .u16 (g.src : Int), .int .u16 (g.dst : Int), .int .u32 (g.seq : Int), .int .u32 (g.ack : Int), .int .u8 (g.flags : Int), .slice A1 n1 c1, .slice D m d])
  replace HC := Lib.hid (HC.out.into b1.out)
  replace HD := Lib.hid (HD.out.into b1.out)
  replace HR := Lib.hid (HR.out.into b1.out)
  obtain ⟨T, hT⟩ : ∃ T, T = w.heap.size := ⟨_, rfl⟩
  have HT := Lib.hid hT
  obtain ⟨nb, hnb⟩ : ∃ nb, nb = n % 256 := ⟨_, rfl⟩
  have hnr : (n : Int).tmod 256 = (nb : Nat) := by rw [Int.tmod_eq_emod_of_nonneg (by omega)]; omega
  have hwb : IntKind.u8.wrap (nb : Nat) = (nb : Nat) := by rw [IntKind.wrap_u8]; omega
  have hwm : IntKind.u64.wrap (m : Int) = (m : Nat) := by rw [IntKind.wrap_u64]; omega
  obtain ⟨k, hk⟩ : ∃ k, k = n - 8 := ⟨_, rfl⟩
  have HNB := Lib.hid hnb
  have HKK := Lib.hid hk
  have hput := fun (v : Value) (l : List Nat) (x B : Nat) (w : World) h2 h3 h4 h5 => (show Calls Try.prog 57 #[v, .int .u64 x, .int .i64 2] w fun e w' => ∃ v', e = .returned v' ∧ Nats w' 5 .u8 B v' (l ++ be x 2) ∧ Below B w w' from rput_any 2 v l x B w (by omega) h2 h3 h4 h5)
  have HPUT := Lib.hid hput
  have e0 : coverL g kd l = hdrS g ++ [kd, nb] ++ l.take k ++ be m 2 ++ g.data := by
    rw [coverL_eq, be_low, hln.out, hlm.out, HNB.out, HKK.out]
  have E0 := Lib.hid e0
  clear hT hnb hput e0 hk
  go_enter Try.func12, Try.ntmps12
  go_wp2_with fail
  rw [← HT.out] at k1 b1 ⊢
  generalize w.alloc (.cells #[.int .u16 (g.src : Int), .int .u16 (g.dst : Int), .int .u32 (g.seq : Int), .int .u32 (g.ack : Int), .int .u8 (g.flags : Int), .slice A1 n1 c1, .slice D m d] 30) = W at *
  have hTW : T ≤ W.heap.size := Nat.le_of_lt k1.out.lt
  obtain ⟨U, hU⟩ : ∃ U, U = W.heap.size := ⟨_, rfl⟩
  have HU := Lib.hid hU
  have hTU : T < U := by rw [hU]; exact k1.out.lt
  refine (rheader_any _ g W HC.out.seg HC.out.bd).mono ?_
  rintro e w1 ⟨v1, rfl, hN, hb1⟩
  rw [← hU] at hN hb1
  have K1 := Lib.hid (k1.out.below hb1 hTU)
  have HN1 := Lib.hid hN
  have B1 := Lib.hid (b1.out.trans (hb1.mono (Nat.le_of_lt hTU)))
  have HD1 : Hid (Rd w1 U 1 D m (ns .u8 g.data)) := Lib.hid ((hU ▸ HD.out).below hb1)
  have HR1 : Hid (Rd w1 U 1 A n (ns .u8 l)) := Lib.hid ((hU ▸ HR.out).below hb1)
  have hz1 : U ≤ w1.heap.size := by rw [hU]; exact hb1.size
  have hlh := Lib.hid (hdrS_len g)
  have HLN := Lib.hid (show (hdrS g ++ [kd, nb]).length = 15 from by rw [List.length_append, hdrS_len]; rfl)
  clear hN hb1 k1 b1 HD HR hU
  go_wp2_with (at_builtin; go_must (refine appn cctEl rfl _ _ rfl rfl (HN1.out.alloc _) rfl (Rd.lit (w := w1) (B := w1.heap.size + 1) [kd, nb] rfl (by omega) rfl rfl) (by have := hlh.out; simp [this]; exact room_ge (by omega)) (by simp; omega) ?_))
  intro v2 w2 hN2 _ hb2
  have hb2' : Below U w1 w2 := ((Below.refl U w1).alloc hz1 _).trans hb2
  have K2 := Lib.hid (K1.out.below hb2' hTU)
  have HN2 := Lib.hid hN2
  have B2 := Lib.hid (B1.out.trans (hb2'.mono (Nat.le_of_lt hTU)))
  have HD2 := Lib.hid (HD1.out.below hb2')
  have HR2 := Lib.hid (HR1.out.below hb2')
  have hz2 : U ≤ w2.heap.size := Nat.le_trans hz1 hb2'.size
  clear hN2 hb2 hb2' K1 HN1 B1 HD1 HR1 hz1
  -- what the body brings
  have hbody : ∀ (v3 : Value) (w3 : World), Hid (Nats w3 5 .u8 U v3 (hdrS g ++ [kd, nb] ++ l.take k)) → Hid (Below U w2 w3) → True := fun _ _ _ _ => trivial
  clear hbody
  by_cases h8 : 8 < n
  · have h8' : (8 : Int) < (n : Int) := by omega
    have hw8 : IntKind.i64.wrap ((n : Int) - 8) = (k : Int) := by have := HKK.out; rw [IntKind.wrap_i64]; omega
    have hk := HKK.out
    have hkc : k ≤ c := by omega
    have hkn : k ≤ n := by omega
    have hlk := Lib.hid (show (l.take k).length = k from by rw [List.length_take, hln.out]; omega)
    clear hk
    have hcut := run_cut_h cctEl A n c k hkc w2
    have HK2 := Lib.hid (HR2.out.takeN hkn)
    go_wp2_with (at_builtin; go_must (refine appn cctEl rfl _ _ rfl rfl HN2.out rfl HK2.out (by simp only [List.length_append, List.length_cons, List.length_nil, hlh.out, hlk.out]; exact room_ge (by omega)) hz2 ?_))
    intro v3 w3 hN3 _ hb3
    have K3 := Lib.hid (K2.out.below hb3 hTU)
    have HN3 := Lib.hid hN3
    have B3 := Lib.hid (B2.out.trans (hb3.mono (Nat.le_of_lt hTU)))
    have HD3 := Lib.hid (HD2.out.below hb3)
    have hz3 : U ≤ w3.heap.size := Nat.le_trans hz2 hb3.size
    have c6 : w3.cell? ⟨T, 6, none⟩ = some (.slice D m d) := K3.out.cell 6
    clear hN3 hb3
    go_wp2_with fail
    refine (HPUT.out v3 _ m U w3 HN3.out hz3 (by simp only [List.length_append, List.length_cons, List.length_nil, hlh.out, hlk.out]; omega) (by omega)).mono ?_
    rintro e w4 ⟨v4, rfl, hN4, hb4⟩
    have K4 := Lib.hid (K3.out.below hb4 hTU)
    have HN4 := Lib.hid hN4
    have B4 := Lib.hid (B3.out.trans (hb4.mono (Nat.le_of_lt hTU)))
    have HD4 := Lib.hid (HD3.out.below hb4)
    have hz4 : U ≤ w4.heap.size := Nat.le_trans hz3 hb4.size
    have c6' : w4.cell? ⟨T, 6, none⟩ = some (.slice D m d) := K4.out.cell 6
    clear hN4 hb4 c6
    go_wp2_with (at_builtin; go_must (refine appn cctEl rfl _ _ rfl rfl HN4.out rfl HD4.out (by simp only [List.length_append, List.length_cons, List.length_nil, hlh.out, hlk.out, hlm.out, be_len]; exact room_ge (by omega)) hz4 ?_))
    intro v5 w5 hN5 _ hb5
    have HN5 := Lib.hid hN5
    have B5 := Lib.hid (B4.out.trans (hb5.mono (Nat.le_of_lt hTU)))
    clear hN5 hb5
    go_wp2_with fail
    go_ret
    refine ⟨v5, rfl, ?_, ?_⟩
    · have q := HN5.out.mono (Nat.le_of_lt hTU)
      rw [HT.out] at q
      rw [E0.out]
      simpa only [List.append_assoc, List.cons_append, List.nil_append] using q
    · have q2 := B5.out
      rw [HT.out] at q2
      exact q2
  · have h8' : ¬ (8 : Int) < (n : Int) := by omega
    have hkn : k ≤ n := by have := HKK.out; omega
    have hk0 : l.take k = [] := by rw [HKK.out, show n - 8 = 0 by omega]; rfl
    have hN3 : Nats w2 5 .u8 U v2 (hdrS g ++ [kd, nb] ++ l.take k) := by rw [hk0, List.append_nil]; exact HN2.out
    have hlk := Lib.hid (show (l.take k).length = k from by rw [hk0, HKK.out]; simp; omega)
    have hb3 : Below U w2 w2 := Below.refl _ _
    clear hk0
    clear HN2
    have K3 := Lib.hid (K2.out.below hb3 hTU)
    have HN3 := Lib.hid hN3
    have B3 := Lib.hid (B2.out.trans (hb3.mono (Nat.le_of_lt hTU)))
    have HD3 := Lib.hid (HD2.out.below hb3)
    have hz3 : U ≤ w2.heap.size := Nat.le_trans hz2 hb3.size
    have c6 : w2.cell? ⟨T, 6, none⟩ = some (.slice D m d) := K3.out.cell 6
    clear hN3 hb3
    go_wp2_with fail
    refine (HPUT.out v2 _ m U w2 HN3.out hz3 (by simp only [List.length_append, List.length_cons, List.length_nil, hlh.out, hlk.out]; omega) (by omega)).mono ?_
    rintro e w4 ⟨v4, rfl, hN4, hb4⟩
    have K4 := Lib.hid (K3.out.below hb4 hTU)
    have HN4 := Lib.hid hN4
    have B4 := Lib.hid (B3.out.trans (hb4.mono (Nat.le_of_lt hTU)))
    have HD4 := Lib.hid (HD3.out.below hb4)
    have hz4 : U ≤ w4.heap.size := Nat.le_trans hz3 hb4.size
    have c6' : w4.cell? ⟨T, 6, none⟩ = some (.slice D m d) := K4.out.cell 6
    clear hN4 hb4 c6
    go_wp2_with (at_builtin; go_must (refine appn cctEl rfl _ _ rfl rfl HN4.out rfl HD4.out (by simp only [List.length_append, List.length_cons, List.length_nil, hlh.out, hlk.out, hlm.out, be_len]; exact room_ge (by omega)) hz4 ?_))
    intro v5 w5 hN5 _ hb5
    have HN5 := Lib.hid hN5
    have B5 := Lib.hid (B4.out.trans (hb5.mono (Nat.le_of_lt hTU)))
    clear hN5 hb5
    go_wp2_with fail
    go_ret
    refine ⟨v5, rfl, ?_, ?_⟩
    · have q := HN5.out.mono (Nat.le_of_lt hTU)
      rw [HT.out] at q
      rw [E0.out]
      simpa only [List.append_assoc, List.cons_append, List.nil_append] using q
    · have q2 := B5.out
      rw [HT.out] at q2
      exact q2
end Go.Proofs.Ytbiimgfocgbdaaa
