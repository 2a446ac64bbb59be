/- Package outlet: an outlet in memory; its calls. -/
import Derived.Test.YtmkjclgdiikjdaaRng6
import Derived.Test.YtmkjclgdiikjdaaStm
import Derived.Test.YtmkjclgdiikjdaaGhoP
namespace Go.Proofs.Ytmkjclgdiikjdaa
open Go.RowKit
set_option linter.unusedVariables false
set_option linter.unusedSimpArgs false
/-- A fact that no word looks into. -/
structure Sh (p : Prop) : Prop where
  out : p
/-- How many bytes a stream may have. -/
def qLim : Nat := 4611686018427387904
/-- An outlet in memory: its ring has these bytes. -/
structure OU (w : World) (o g p size base : Nat) (cl dn : Bool) (bs : List Nat) : Prop where
  blk : Blk w o 44 #[.pointer (some ⟨g, 0, none⟩), .int .u64 (base : Int), .bool cl, .bool dn]
  rg : ∃ L, Ring w g p size bs.length L ∧ L.take bs.length = bs
  og : o ≠ g
  op : o ≠ p
  bb : base + bs.length ≤ qLim
/-- Nothing but these three blocks has turned. -/
def Tri (o g p : Nat) (w w' : World) : Prop := Below (min o (min g p)) w w' ∧ w'.heap.size = w.heap.size ∧ ∀ k, k ≠ o → k ≠ g → k ≠ p → w'.heap[k]? = w.heap[k]?
section
variable {w w' w2 : World} {o g p size base : Nat} {cl dn : Bool} {bs : List Nat}
theorem Tri.refl : Tri o g p w w := ⟨Below.refl _ _, rfl, fun _ _ _ _ => rfl⟩
theorem Tri.trans (h : Tri o g p w w') (k : Tri o g p w' w2) : Tri o g p w w2 := ⟨h.1.trans k.1, k.2.1.trans h.2.1, fun i a b c => (k.2.2 i a b c).trans (h.2.2 i a b c)⟩
theorem Tri.of_duo (h : Duo g p w w') : Tri o g p w w' := ⟨h.1.mono (Nat.min_le_right _ _), h.2.1, fun k _ b c => h.2.2 k b c⟩
theorem Tri.of_o (h : Solo o w w') : Tri o g p w w' := ⟨h.1.mono (Nat.min_le_left _ _), h.2.1, fun k a _ _ => h.2.2 k a⟩
theorem Tri.drewN (h : Tri o g p w w') (n : Nat) : Tri o g p w (w'.drewN n) := ⟨below_drewN h.1 n, h.2.1, h.2.2⟩
theorem Tri.drew (h : Tri o g p w w') : Tri o g p w w'.drew := by rw [World.drew_is_drewN]; exact h.drewN 1
theorem Tri.below {B : Nat} (h : Tri o g p w w') (ho : B ≤ o) (hg : B ≤ g) (hp : B ≤ p) : Below B w w' := h.1.mono (by omega)
theorem Tri.nats {e : TypeId} {k : IntKind} {B : Nat} {v : Value} {l : List Nat} (h : Tri o g p w w') (hn : Nats w e k B v l) (ho : o < B) (hg : g < B) (hp : p < B) : Nats w' e k B v l :=
  hn.kept fun i hi => by
    have : B ≤ i := (hn.lt i hi).1
    exact h.2.2 i (by omega) (by omega) (by omega)
theorem OU.c0 (h : OU w o g p size base cl dn bs) : w.cell? ⟨o, 0, none⟩ = some (.pointer (some ⟨g, 0, none⟩)) := by rw [h.blk.cell]; rfl
theorem OU.c1 (h : OU w o g p size base cl dn bs) : w.cell? ⟨o, 1, none⟩ = some (.int .u64 (base : Int)) := by rw [h.blk.cell]; rfl
theorem OU.c2 (h : OU w o g p size base cl dn bs) : w.cell? ⟨o, 2, none⟩ = some (.bool cl) := by rw [h.blk.cell]; rfl
theorem OU.c3 (h : OU w o g p size base cl dn bs) : w.cell? ⟨o, 3, none⟩ = some (.bool dn) := by rw [h.blk.cell]; rfl
theorem OU.drewN (h : OU w o g p size base cl dn bs) (n : Nat) : OU (w.drewN n) o g p size base cl dn bs := by
  obtain ⟨L, hr, hl⟩ := h.rg
  exact ⟨h.blk, ⟨L, hr.drewN n, hl⟩, h.og, h.op, h.bb⟩
theorem OU.drew (h : OU w o g p size base cl dn bs) : OU w.drew o g p size base cl dn bs := by rw [World.drew_is_drewN]; exact h.drewN 1
theorem OU.alloc (h : OU w o g p size base cl dn bs) (x : Obj) : OU (w.alloc x) o g p size base cl dn bs := by
  obtain ⟨L, hr, hl⟩ := h.rg
  exact ⟨h.blk.alloc x, ⟨L, hr.alloc x, hl⟩, h.og, h.op, h.bb⟩
theorem OU.lt (h : OU w o g p size base cl dn bs) : o < w.heap.size ∧ g < w.heap.size ∧ p < w.heap.size := by
  obtain ⟨L, hr, hl⟩ := h.rg
  exact ⟨h.blk.lt, hr.bl.1, hr.bl.2⟩
theorem OU.below {B : Nat} (h : OU w o g p size base cl dn bs) (hb : Below B w w') (ho : o < B) (hg : g < B) (hp : p < B) : OU w' o g p size base cl dn bs := by
  obtain ⟨L, hr, hl⟩ := h.rg
  exact ⟨h.blk.below hb ho, ⟨L, hr.below hb hg hp, hl⟩, h.og, h.op, h.bb⟩
theorem OU.into (h : OU w o g p size base cl dn bs) (hb : Below w.heap.size w w') : OU w' o g p size base cl dn bs := h.below hb h.lt.1 h.lt.2.1 h.lt.2.2
theorem OU.sz (h : OU w o g p size base cl dn bs) : bs.length ≤ size ∧ size ≤ 65536 ∧ 0 < size := by
  obtain ⟨L, hr, hl⟩ := h.rg
  exact ⟨hr.ts, hr.sz⟩
theorem OU.bytes (h : OU w o g p size base cl dn bs) : ∀ x ∈ bs, x < 256 := by
  obtain ⟨L, hr, hl⟩ := h.rg
  rw [← hl]
  exact fun x hx => hr.lt x (List.mem_of_mem_take hx)
end
set_option maxRecDepth 20000 in
theorem ou_len (o g p size base : Nat) (cl dn : Bool) (bs : List Nat) (w : World) (h : OU w o g p size base cl dn bs) :
    Calls Try.prog 17 #[.pointer (some ⟨g, 0, none⟩)] w fun e w' => e = .returned (.int .i64 (bs.length : Int)) ∧ w' = w := by
  obtain ⟨L, hr, hl⟩ := h.rg
  exact lenR g p size _ L w hr
theorem ou_free (o g p size base : Nat) (cl dn : Bool) (bs : List Nat) (w : World) (h : OU w o g p size base cl dn bs) :
    Calls Try.prog 18 #[.pointer (some ⟨g, 0, none⟩)] w fun e w' => e = .returned (.int .i64 ((size - bs.length : Nat) : Int)) ∧ ∃ n, w' = w.drewN n := by
  obtain ⟨L, hr, hl⟩ := h.rg
  exact freeR g p size _ L w hr
theorem ou_base (o g p size base : Nat) (cl dn : Bool) (bs : List Nat) (w : World) (h : OU w o g p size base cl dn bs) :
    Calls Try.prog 10 #[.pointer (some ⟨o, 0, none⟩)] w fun e w' => e = .returned (.int .u64 (base : Int)) ∧ w' = w := by
  have c1 := h.c1
  clear h
  go_enter Try.func10, Try.ntmps10
  go_wp2_with fail
  go_ret
  exact ⟨rfl, rfl⟩
theorem ou_closed (o g p size base : Nat) (cl dn : Bool) (bs : List Nat) (w : World) (h : OU w o g p size base cl dn bs) :
    Calls Try.prog 16 #[.pointer (some ⟨o, 0, none⟩)] w fun e w' => e = .returned (.bool cl) ∧ w' = w := by
  have c1 := h.c2
  clear h
  go_enter Try.func16, Try.ntmps16
  go_wp2_with fail
  go_ret
  exact ⟨rfl, rfl⟩
theorem ou_done (o g p size base : Nat) (cl dn : Bool) (bs : List Nat) (w : World) (h : OU w o g p size base cl dn bs) :
    Calls Try.prog 15 #[.pointer (some ⟨o, 0, none⟩)] w fun e w' => e = .returned (.bool dn) ∧ w' = w := by
  have c1 := h.c3
  clear h
  go_enter Try.func15, Try.ntmps15
  go_wp2_with fail
  go_ret
  exact ⟨rfl, rfl⟩
theorem ou_close (o g p size base : Nat) (cl dn : Bool) (bs : List Nat) (w : World) (h : OU w o g p size base cl dn bs) :
    Calls Try.prog 24 #[.pointer (some ⟨o, 0, none⟩)] w fun e w' => (∃ v, e = .returned v) ∧ Tri o g p w w' ∧ OU w' o g p size base true dn bs := by
  have c1 := h.c2
  have hf := h.blk.frozen 2
  have H := Lib.hid h
  clear h
  go_enter Try.func24, Try.ntmps24
  go_wp2_with fail
  go_end0
  have hs : Solo o w (w.setCell ⟨o, 2, none⟩ (.bool true)) := Solo.refl.setCell 2 _
  obtain ⟨L, ⟨first, m, hi, e, hx⟩, hl⟩ := H.out.rg
  refine ⟨⟨_, rfl⟩, Tri.of_o hs, ?_, ⟨L, ⟨first, m, ⟨hs.blk hi.blk H.out.og.symm, hi.mem.solo hs H.out.op.symm, hi.len, hi.fs, hi.ts, hi.sz, hi.ne⟩, e, hx⟩, hl⟩, H.out.og, H.out.op, H.out.bb⟩
  exact H.out.blk.set 2 _
set_option maxRecDepth 20000 in
theorem ou_end (o g p size base : Nat) (cl dn : Bool) (bs : List Nat) (w : World) (h : OU w o g p size base cl dn bs) :
    Calls Try.prog 11 #[.pointer (some ⟨o, 0, none⟩)] w fun e w' => e = .returned (.int .u64 ((base + bs.length : Nat) : Int)) ∧ ∃ n, w' = w.drewN n := by
  have c0 := h.c0
  have c1 := h.c1
  have hb := h.bb
  have hz := h.sz
  unfold qLim at hb
  have hw1 : IntKind.u64.wrap (bs.length : Int) = (bs.length : Nat) := by rw [IntKind.wrap_u64]; omega
  obtain ⟨e, he⟩ : ∃ e, e = base + bs.length := ⟨_, rfl⟩
  have hw2 : IntKind.u64.wrap ((base : Int) + (bs.length : Int)) = (e : Nat) := by rw [IntKind.wrap_u64]; omega
  rw [← he]
  have HH := Lib.hid h
  clear h hb hz he
  go_enter Try.func11, Try.ntmps11
  go_wp2_with fail
  go_quiet ((go_at_call 17; exact Calls.quiet_of_same (ou_len o g p size base cl dn bs _ (by exact HH.out.drewN _))))
  go_wp2
  go_ret
  exact ⟨rfl, _, rfl⟩
set_option maxRecDepth 20000 in
theorem ou_top (o g p size base : Nat) (cl dn : Bool) (bs : List Nat) (w : World) (h : OU w o g p size base cl dn bs) :
    Calls Try.prog 13 #[.pointer (some ⟨o, 0, none⟩)] w fun e w' => e = .returned (.int .u64 ((base + bs.length + (if cl then 1 else 0) : Nat) : Int)) ∧ ∃ n, w' = w.drewN n := by
  have c2 := h.c2
  have hb := h.bb
  unfold qLim at hb
  have HE := ou_end o g p size base cl dn bs w h
  obtain ⟨e, he⟩ : ∃ e, e = base + bs.length := ⟨_, rfl⟩
  rw [← he] at HE ⊢
  have hw2 : IntKind.u64.wrap ((e : Int) + 1) = (e + 1 : Nat) := by rw [IntKind.wrap_u64]; omega
  have HE := Lib.hid HE
  clear h hb he
  cases cl
  · go_enter Try.func13, Try.ntmps13
    go_wp2_with fail
    refine HE.out.mono ?_
    rintro e' w1 ⟨rfl, q, rfl⟩
    go_wp2_with fail
    go_ret
    exact ⟨rfl, _, rfl⟩
  · go_enter Try.func13, Try.ntmps13
    go_wp2_with fail
    refine HE.out.mono ?_
    rintro e' w1 ⟨rfl, q, rfl⟩
    go_wp2_with fail
    go_ret
    exact ⟨rfl, _, rfl⟩
end Go.Proofs.Ytmkjclgdiikjdaa
