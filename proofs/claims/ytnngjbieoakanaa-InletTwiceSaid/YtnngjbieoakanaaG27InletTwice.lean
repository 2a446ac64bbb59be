/- Package inlet: an inlet in memory; its simple calls. -/
import Derived.Test.YtnngjbieoakanaaG16InletTwice
import Derived.Test.YtnngjbieoakanaaG17InletTwice
import Derived.Test.YtnngjbieoakanaaG24InletTwice
import Derived.Test.YtnngjbieoakanaaG25InletTwice
import Derived.Test.YtnngjbieoakanaaG26InletTwice
import Derived.Deep.Cut

namespace Go.Proofs.Ytnngjbieoakanaa
open Go.RowKit
set_option linter.unusedVariables false
set_option linter.unusedSimpArgs false
/-- An inlet's cells. -/
def inC (g s : Nat) (st : Ist) : Array Value := #[.pointer (some ⟨g, 0, none⟩), .int .u64 (st.base : Int), .pointer (some ⟨s, 0, none⟩), .int .u64 (st.en : Int), .bool st.kn]
/-- An inlet in memory. -/
structure IN (w : World) (B x g p s : Nat) (st : Ist) : Prop where
  blk : Blk w x 35 (inC g s st)
  rg : Ring w g p st.size st.there st.L
  sp : ∃ v, SetI w s B st.most v st.P
  ok : st.ok
  bx : B ≤ x
  bg : B ≤ g
  bp : B ≤ p
  en : st.en < pmax
/-- Of what was there nothing has turned but an inlet's blocks and, from B on, rows of pieces. -/
structure IK (B x g p s : Nat) (w w' : World) : Prop where
  os : w'.os = w.os
  tape : w'.tape = w.tape
  output : w'.output = w.output
  size : w.heap.size ≤ w'.heap.size
  same : ∀ k, k < w.heap.size → k ≠ x → k ≠ g → k ≠ p → k ≠ s → (k < B ∨ ∀ cs m, w.heap[k]? ≠ some (.cells cs 71 m)) → w'.heap[k]? = w.heap[k]?
section
variable {w w' w2 : World} {B x g p s : Nat} {st : Ist}
theorem IK.refl : IK B x g p s w w := ⟨rfl, rfl, rfl, Nat.le_refl _, fun _ _ _ _ _ _ _ => rfl⟩
theorem IK.trans (h : IK B x g p s w w') (k : IK B x g p s w' w2) : IK B x g p s w w2 :=
  ⟨k.os.trans h.os, k.tape.trans h.tape, k.output.trans h.output, Nat.le_trans h.size k.size, fun i hi a b c d e => by
    have h1 := h.same i hi a b c d e
    rw [k.same i (Nat.lt_of_lt_of_le hi h.size) a b c d (by rw [h1]; exact e), h1]⟩
theorem IK.of (h : Below w.heap.size w w') : IK B x g p s w w' := ⟨h.os, h.tape, h.output, h.size, fun k hk _ _ _ _ _ => h.block k hk⟩
theorem IK.ofX (h : Solo x w w') : IK B x g p s w w' := ⟨h.1.os, h.1.tape, h.1.output, Nat.le_of_eq h.2.1.symm, fun k _ a _ _ _ _ => h.2.2 k a⟩
theorem IK.ofR (h : Duo g p w w') : IK B x g p s w w' := ⟨h.1.os, h.1.tape, h.1.output, Nat.le_of_eq h.2.1.symm, fun k _ _ a b _ _ => h.2.2 k a b⟩
theorem IK.ofS {v v' : Value} {most : Nat} {l : List Sp} (hS : SetI w s B most v l) (h : KeptS s v v' w w') (hb : Below B w w') : IK B x g p s w w' :=
  ⟨hb.os, hb.tape, hb.output, h.2.2, fun k hk _ _ _ a e => h.1 k hk a fun ho => by
    rcases own_open hS.own with ⟨rfl, _, _⟩ | ⟨rb, c, L, rfl, hB, hr, _⟩
    · simp [Value.ownBlock] at ho
    · simp [Value.ownBlock] at ho
      subst ho
      rcases e with e | e
      · omega
      · exact e _ _ hr⟩
theorem IK.below (h : IK B x g p s w w') (hx : B ≤ x) (hg : B ≤ g) (hp : B ≤ p) (hs : B ≤ s) (hw : B ≤ w.heap.size) : Below B w w' :=
  ⟨h.os, h.tape, h.output, h.size, fun k hk => h.same k (by omega) (by omega) (by omega) (by omega) (by omega) (.inl hk)⟩
theorem IN.ss (h : IN w B x g p s st) : B ≤ s := by obtain ⟨v, hv⟩ := h.sp; exact hv.bg
theorem IN.hw (h : IN w B x g p s st) : B ≤ w.heap.size := Nat.le_trans h.bx (Nat.le_of_lt h.blk.lt)
theorem IN.bel (h : IN w B x g p s st) (k : IK B x g p s w w') : Below B w w' := k.below h.bx h.bg h.bp h.ss h.hw
theorem IN.c0 (h : IN w B x g p s st) : w.cell? ⟨x, 0, none⟩ = some (.pointer (some ⟨g, 0, none⟩)) := by rw [h.blk.cell]; rfl
theorem IN.c1 (h : IN w B x g p s st) : w.cell? ⟨x, 1, none⟩ = some (.int .u64 (st.base : Int)) := by rw [h.blk.cell]; rfl
theorem IN.c2 (h : IN w B x g p s st) : w.cell? ⟨x, 2, none⟩ = some (.pointer (some ⟨s, 0, none⟩)) := by rw [h.blk.cell]; rfl
theorem IN.c3 (h : IN w B x g p s st) : w.cell? ⟨x, 3, none⟩ = some (.int .u64 (st.en : Int)) := by rw [h.blk.cell]; rfl
theorem IN.c4 (h : IN w B x g p s st) : w.cell? ⟨x, 4, none⟩ = some (.bool st.kn) := by rw [h.blk.cell]; rfl
theorem IN.rblk (h : IN w B x g p s st) : ∃ cs ds, Blk w g 60 cs ∧ Blk w p 5 ds := by
  obtain ⟨f, m, hi, _⟩ := h.rg
  exact ⟨_, _, hi.blk, hi.mem⟩
theorem IN.ne (h : IN w B x g p s st) : x ≠ g ∧ x ≠ p ∧ x ≠ s ∧ g ≠ p ∧ g ≠ s ∧ p ≠ s := by
  obtain ⟨cs, ds, h1, h2⟩ := h.rblk
  obtain ⟨v, hv⟩ := h.sp
  exact ⟨blk_nt h.blk h1 (by decide), blk_nt h.blk h2 (by decide), blk_nt h.blk hv.blk (by decide), blk_nt h1 h2 (by decide), blk_nt h1 hv.blk (by decide), blk_nt h2 hv.blk (by decide)⟩
theorem IN.lt (h : IN w B x g p s st) : x < w.heap.size ∧ g < w.heap.size ∧ p < w.heap.size ∧ s < w.heap.size := by
  obtain ⟨v, hv⟩ := h.sp
  exact ⟨h.blk.lt, h.rg.bl.1, h.rg.bl.2, hv.lt⟩
theorem IN.into (h : IN w B x g p s st) (hb : Below w.heap.size w w') : IN w' B x g p s st := by
  obtain ⟨v, hv⟩ := h.sp
  exact ⟨h.blk.below hb h.blk.lt, h.rg.below hb h.rg.bl.1 h.rg.bl.2, ⟨v, hv.below hb (Nat.le_refl _)⟩, h.ok, h.bx, h.bg, h.bp, h.en⟩
theorem IN.drewN (h : IN w B x g p s st) (n : Nat) : IN (w.drewN n) B x g p s st := h.into (below_drewN (Below.refl _ _) n)
theorem IN.alloc (h : IN w B x g p s st) (o : Obj) : IN (w.alloc o) B x g p s st := h.into ((Below.refl _ _).alloc (Nat.le_refl _) _)
/-- The ring has turned. -/
theorem IN.ring {L : List Nat} {t : Nat} (h : IN w B x g p s st) (hd : Duo g p w w') (hr : Ring w' g p st.size t L) (hk : ({ st with there := t, L := L } : Ist).ok) : IN w' B x g p s { st with there := t, L := L } := by
  obtain ⟨v, hv⟩ := h.sp
  obtain ⟨n1, n2, n3, n4, n5, n6⟩ := h.ne
  obtain ⟨cs, ds, h1, h2⟩ := h.rblk
  refine ⟨(hd.2.2 x n1 n2).trans h.blk, hr, ⟨v, ?_⟩, hk, h.bx, h.bg, h.bp, h.en⟩
  exact ⟨(hd.2.2 s n5.symm n6.symm).trans hv.blk, own_kept hv.own fun k ho => hd.2.2 k (by rintro rfl; exact own_nt hv.own h1 (by decide) ho) (by rintro rfl; exact own_nt hv.own h2 (by decide) ho), hv.rise, hv.bd, hv.len, hv.ms, hv.bg⟩
/-- The pieces have turned. -/
theorem IN.pcs {P : List Sp} {v v' : Value} (h : IN w B x g p s st) (hv : SetI w s B st.most v st.P) (hk : KeptS s v v' w w') (hv' : SetI w' s B st.most v' P) (ho : ({ st with P := P } : Ist).ok) : IN w' B x g p s { st with P := P } := by
  obtain ⟨n1, n2, n3, n4, n5, n6⟩ := h.ne
  obtain ⟨f, m, hi, e, hx⟩ := h.rg
  have hl := h.lt
  refine ⟨(hk.1 x hl.1 n3 (own_nt hv.own h.blk (by decide))).trans h.blk, ⟨f, m, ⟨(hk.1 g hl.2.1 n5 (own_nt hv.own hi.blk (by decide))).trans hi.blk, ?_, hi.len, hi.fs, hi.ts, hi.sz, hi.ne⟩, e, hx⟩, ⟨v', hv'⟩, ho, h.bx, h.bg, h.bp, h.en⟩
  exact (hk.1 p hl.2.2.1 n6 (own_nt hv.own hi.mem (by decide))).trans hi.mem
/-- Its own cells have turned. -/
theorem IN.own {b e : Nat} {k : Bool} (h : IN w B x g p s st) (hs : Solo x w w') (hb : Blk w' x 35 (inC g s { st with base := b, en := e, kn := k })) (ho : ({ st with base := b, en := e, kn := k } : Ist).ok) (he : e < pmax) : IN w' B x g p s { st with base := b, en := e, kn := k } := by
  obtain ⟨n1, n2, n3, n4, n5, n6⟩ := h.ne
  obtain ⟨f, m, hi, e1, hx⟩ := h.rg
  obtain ⟨v, hv⟩ := h.sp
  exact ⟨hb, ⟨f, m, ⟨(hs.2.2 g n1.symm).trans hi.blk, (hs.2.2 p n2.symm).trans hi.mem, hi.len, hi.fs, hi.ts, hi.sz, hi.ne⟩, e1, hx⟩, ⟨v, hv.solo hs n3.symm fun k hk => by rintro rfl; exact own_nt hv.own h.blk (by decide) hk⟩, ho, h.bx, h.bg, h.bp, he⟩
end
theorem in_len (B x g p s : Nat) (st : Ist) (w : World) (h : IN w B x g p s st) :
    Calls Try.prog 24 #[.pointer (some ⟨g, 0, none⟩)] w fun e w' => e = .returned (.int .i64 (st.there : Int)) ∧ w' = w := lenR g p st.size _ st.L w h.rg
theorem in_size (B x g p s : Nat) (st : Ist) (w : World) (h : IN w B x g p s st) :
    Calls Try.prog 27 #[.pointer (some ⟨g, 0, none⟩)] w fun e w' => e = .returned (.int .i64 (st.size : Int)) ∧ w' = w := by
  obtain ⟨f, m, hi, _⟩ := h.rg
  exact size_any g p _ f _ m w hi
theorem in_base (B x g p s : Nat) (st : Ist) (w : World) (h : IN w B x g p s st) :
    Calls Try.prog 8 #[.pointer (some ⟨x, 0, none⟩)] w fun e w' => e = .returned (.int .u64 (st.base : Int)) ∧ w' = w := by
  have c1 := h.c1
  clear h
  go_enter Try.func8, Try.ntmps8
  go_wp2_with fail
  go_ret
  exact ⟨rfl, rfl⟩
set_option maxRecDepth 20000 in
theorem in_next (B x g p s : Nat) (st : Ist) (w : World) (h : IN w B x g p s st) :
    Calls Try.prog 10 #[.pointer (some ⟨x, 0, none⟩)] w fun e w' => e = .returned (.int .u64 (st.next : Int)) ∧ ∃ n, w' = w.drewN n := by
  have c0 := h.c0
  have c1 := h.c1
  have hb := h.ok.bl
  have hz := h.ok.ts
  have hz2 := h.ok.s6
  unfold iLim at hb
  have hw1 : IntKind.u64.wrap (st.there : Int) = (st.there : Nat) := by rw [IntKind.wrap_u64]; omega
  obtain ⟨e, he⟩ : ∃ e, e = st.next := ⟨_, rfl⟩
  have hw2 : IntKind.u64.wrap ((st.base : Int) + (st.there : Int)) = (e : Nat) := by rw [IntKind.wrap_u64, he]; unfold Ist.next; omega
  rw [← he]
  have HH := Lib.hid h
  clear h hb hz hz2 he
  go_enter Try.func10, Try.ntmps10
  go_wp2_with fail
  go_quiet ((go_at_call 24; exact Calls.quiet_of_same (in_len B x g p s st _ (by exact HH.out.drewN _))))
  go_wp2
  go_ret
  exact ⟨rfl, _, rfl⟩
set_option maxRecDepth 20000 in
theorem in_edge (B x g p s : Nat) (st : Ist) (w : World) (h : IN w B x g p s st) :
    Calls Try.prog 13 #[.pointer (some ⟨x, 0, none⟩)] w fun e w' => e = .returned (.int .u64 ((st.base + st.size : Nat) : Int)) ∧ ∃ n, w' = w.drewN n := by
  have c0 := h.c0
  have c1 := h.c1
  have hb := h.ok.bl
  have hz2 := h.ok.s6
  unfold iLim at hb
  have hw1 : IntKind.u64.wrap (st.size : Int) = (st.size : Nat) := by rw [IntKind.wrap_u64]; omega
  obtain ⟨e, he⟩ : ∃ e, e = st.base + st.size := ⟨_, rfl⟩
  have hw2 : IntKind.u64.wrap ((st.base : Int) + (st.size : Int)) = (e : Nat) := by rw [IntKind.wrap_u64, he]; omega
  rw [← he]
  have HH := Lib.hid h
  clear h hb hz2 he
  go_enter Try.func13, Try.ntmps13
  go_wp2_with fail
  go_quiet ((go_at_call 27; exact Calls.quiet_of_same (in_size B x g p s st _ (by exact HH.out.drewN _))))
  go_wp2
  go_ret
  exact ⟨rfl, _, rfl⟩
end Go.Proofs.Ytnngjbieoakanaa
