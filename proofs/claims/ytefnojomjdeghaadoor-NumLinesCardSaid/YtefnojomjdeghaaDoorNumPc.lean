/- Package num: Pieces. -/
import Derived.Test.YtefnojomjdeghaaDoorNumK
import Derived.Test.YtefnojomjdeghaaDoorNum4
namespace Go.Proofs.YtefnojomjdeghaaDoor
open Go.RowKit
set_option linter.unusedVariables false
theorem Strs.mono {w : World} {B B' : Nat} {v : Value} {l : List ByteArray} (h : Strs w B v l) (hB : B' ≤ B) : Strs w B' v l := by
  refine ⟨h.1, ?_⟩
  rcases h.2 with h0 | ⟨g, cap, cur, hv, hb, r⟩
  · exact .inl h0
  · exact .inr ⟨g, cap, cur, hv, by omega, r⟩
theorem Strs.iterAt {w : World} {B : Nat} {v : Value} {l : List ByteArray} {p : Nat} {s : ByteArray} {pos pos' : Nat} (h : Strs w B v l) (hp : w.heap[p]? = some (.stringIter s pos)) : Strs (w.iterAt p s pos') B v l := by
  rcases h.2 with ⟨hv, h0⟩ | ⟨g, cap, cur, hv, hb, hh, _⟩
  · refine h.kept fun j hj => ?_
    rw [hv] at hj
    simp [Value.ownBlock] at hj
  · refine h.kept fun j hj => ?_
    rw [hv] at hj
    simp [Value.ownBlock] at hj
    subst hj
    exact Lib.iterAt_other w p g s pos' (by
      intro h'
      rw [h'] at hh
      rw [hh] at hp
      injection hp with hp
      cases hp)
theorem adds_eq (ps : List (List Nat)) (x : ByteArray) : adds (ps.map strN) x = (ps ++ fl (nats x)).map strN := by
  unfold adds fl
  by_cases h : x.size = 0
  · have : nats x = [] := List.eq_nil_of_length_eq_zero (by rw [nats_len]; exact h)
    rw [if_pos h, if_pos this, List.append_nil]
  · have : nats x ≠ [] := by intro h'; have := nats_len x; rw [h'] at this; exact h this.symm
    rw [if_neg h, if_neg this, List.map_append]
    simp [strN_nats]
theorem drop_cons (l : List Nat) (i : Nat) (h : i < l.length) : l.drop i = l.getD i 0 :: l.drop (i + 1) := by
  rw [List.drop_eq_getElem_cons h]; simp [h]
/-- A byte that stays in the piece. -/
theorem now_snoc (l : List Nat) (f i : Nat) (hf : f ≤ i) (hi : i < l.length) : (l.drop f).take (i + 1 - f) = (l.drop f).take (i - f) ++ [l.getD i 0] := by
  rw [show i + 1 - f = (i - f) + 1 by omega, take_snoc (l.drop f) 0 (i - f) (by rw [List.length_drop]; omega)]
  congr 2
  rw [List.getD_eq_getElem?_getD, List.getElem?_drop, show f + (i - f) = i by omega, ← List.getD_eq_getElem?_getD]
theorem now_app (l : List Nat) (f i q : Nat) (hf : f ≤ i) (hi : i ≤ q) (hq : q ≤ l.length) : (l.drop f).take (q - f) = (l.drop f).take (i - f) ++ (l.drop i).take (q - i) := by
  rw [show q - f = (i - f) + (q - i) by omega, List.take_add, List.drop_drop, show f + (i - f) = i by omega]
theorem drop_app (l : List Nat) (i q : Nat) (hi : i ≤ q) : l.drop i = (l.drop i).take (q - i) ++ l.drop q := by
  conv => lhs; rw [← List.take_append_drop (q - i) (l.drop i)]
  rw [List.drop_drop, show i + (q - i) = q by omega]
/-- Where the pieces stand. -/
def At (l : List Nat) (ps : List (List Nat)) (f i : Nat) : Prop := pcs [] l = ps ++ pcs ((l.drop f).take (i - f)) (l.drop i)
theorem At.start (l : List Nat) : At l [] 0 0 := by unfold At; simp
theorem At.other {l : List Nat} {ps : List (List Nat)} {f i c : Nat} (h : At l ps f i) (hf : f ≤ i) (hi : i < l.length) (hc : l.getD i 0 = c) (h1 : c ≠ 35) (h2 : c ≠ 32) : At l ps f (i + 1) := by
  unfold At at *
  rw [h, drop_cons l i hi, hc, pcs, if_neg h1, if_neg h2, now_snoc l f i hf hi, hc]
theorem At.blank {l : List Nat} {ps : List (List Nat)} {f i : Nat} (h : At l ps f i) (hi : i < l.length) (hc : l.getD i 0 = 32) : At l (ps ++ fl ((l.drop f).take (i - f))) (i + 1) (i + 1) := by
  unfold At at *
  rw [h, drop_cons l i hi, hc, pcs, if_neg (by omega), if_pos rfl, Nat.sub_self, List.take_zero, List.append_assoc]
theorem At.sharp {l : List Nat} {ps : List (List Nat)} {f i : Nat} (h : At l ps f i) (hi : i < l.length) (hc : l.getD i 0 = 35) : pcs [] l = ps ++ fl ((l.drop f).take (i - f)) := by
  unfold At at *
  rw [h, drop_cons l i hi, hc, pcs, if_pos rfl]
theorem At.end_ {l : List Nat} {ps : List (List Nat)} {f i : Nat} (h : At l ps f i) (hi : l.length ≤ i) : pcs [] l = ps ++ fl ((l.drop f).take (i - f)) := by
  unfold At at *
  rw [h, List.drop_eq_nil_of_le hi]
  rfl
theorem At.span {l : List Nat} {ps : List (List Nat)} {f i q : Nat} (h : At l ps f i) (hf : f ≤ i) (hi : i ≤ q) (hq : q ≤ l.length) (hc : ∀ k, i ≤ k → k < q → 128 ≤ l.getD k 0) : At l ps f q := by
  unfold At at *
  rw [h, drop_app l i q hi, pcs_app _ _ _ (fun x hx => ?_), now_app l f i q hf hi hq]
  obtain ⟨j, hj, rfl⟩ := List.mem_iff_getElem.1 hx
  simp only [List.length_take, List.length_drop] at hj
  have := hc (i + j) (by omega) (by omega)
  rw [List.getElem_take, List.getElem_drop]
  simp [show i + j < l.length by omega] at this
  omega
theorem At.len {l : List Nat} {ps : List (List Nat)} {f i : Nat} (h : At l ps f i) : ps.length ≤ l.length + 1 := by
  have := pcs_len l []
  unfold At at h
  rw [h, List.length_append] at this
  omega
set_option maxHeartbeats 1000000 in
set_option maxRecDepth 20000 in
theorem pieces_any (s : ByteArray) (w : World) (hs : s.size ≤ 99000) : Calls Tryd.prog 15 #[.string s] w fun e w' => Kp w.heap.size ((pcs [] (nats s)).map strN) w e w' := by
  have hsz' : (s.size : Int) ≤ 99000 := by omega
  go_enter Tryd.func15, Tryd.ntmps15
  go_wp2_with fail
  have hI := World.iter_heap w s 0
  go_loopw [3, 4, 5] (fun lv fv ev wr => ∃ (i f : Nat) (ps : List (List Nat)), f ≤ i ∧ i ≤ s.size ∧ wr.heap[w.heap.size]? = some (.stringIter s i) ∧ fv = .int .i64 f ∧ ev = .int .i64 s.size ∧ Hid (Strs wr (w.heap.size + 1) lv (ps.map strN)) ∧ Hid (At (nats s) ps f i) ∧ Below w.heap.size w wr) (fun _ _ _ wr => s.size - wr.iterPos w.heap.size)
  case atStart => exact ⟨0, 0, [], by omega, by omega, hI, rfl, rfl, Lib.hid (Strs.nil _ _), Lib.hid (At.start _), (Below.refl _ _).alloc (Nat.le_refl _) _⟩
  case round =>
    obtain ⟨i, f, ps, hfi, hi', hit, rfl, rfl, HS, HA, hbw⟩ := hrel
    clear hI
    have hwr : w.heap.size + 1 ≤ wr.heap.size := by
      have := (Array.getElem?_eq_some_iff.1 hit).1
      omega
    have hpl := HA.out.len
    rw [nats_len] at hpl
    by_cases hp : i < s.size
    · have hpn : i < (nats s).length := by rw [nats_len]; exact hp
      have hnn := nats_nth s i hp
      have hd1 := decode_le s i
      by_cases hc128 : (s[i]'hp).toNat < 128
      · have hnx' : ∀ ty, (Instr.next (.pointer (some ⟨w.heap.size, 0, none⟩)) true ty).run Tryd.prog wr = _ := fun ty => Lib.run_next_ascii_at wr w.heap.size s i ty hit hp hc128
        rw [← hnn] at hnx'
        have ho := HA.out.other hfi hpn rfl
        have hbk := HA.out.blank hpn
        have hsp := HA.out.sharp hpn
        have hcl : (nats s).getD i 0 < 128 := by rw [hnn]; exact hc128
        generalize (nats s).getD i 0 = c at hnx' ho hbk hsp hcl
        have HO := Lib.hid ho; have HBK := Lib.hid hbk; have HSP := Lib.hid hsp
        clear hnn hc128 ho hbk hsp
        have hnx := hnx'
        clear hnx'
        have HS2 := Lib.hid (fun q => HS.out.iterAt (pos' := q) hit)
        have hit2 := Lib.iterAt_heap wr w.heap.size s i (i + 1) hit
        have hbw2 := Lib.below_iterAt hbw (Nat.le_refl _) s (i + 1)
        have hwr2 : w.heap.size + 1 ≤ (wr.iterAt w.heap.size s (i + 1)).heap.size := by
          have := (Array.getElem?_eq_some_iff.1 hit2).1
          omega
        have hfi' : (f : Int) ≤ (i : Int) := by omega
        have hil : (i : Int) ≤ (s.size : Int) := by omega
        by_cases h35 : c = 35
        · subst h35
          have hsp := HSP.out rfl
          have HSP2 := Lib.hid hsp
          clear hsp HSP
          have hex : (s.extract f i).size ≤ 100000 := by
            have := nats_len (s.extract f i)
            rw [nats_extract, List.length_take, List.length_drop, nats_len] at this
            omega
          go_wp2_with fail
          refine (keep_any (w.heap.size + 1) _ (ps.map strN) (s.extract f i) _ (HS2.out _) hwr2 hex (by rw [List.length_map]; omega)).mono ?_
          rintro e w3 ⟨v3, rfl, hs3, hb3⟩
          rw [adds_eq, nats_extract, ← HSP2.out] at hs3
          go_wp2_with fail
          go_ret
          exact ⟨_, rfl, hs3.mono (by omega), hbw2.trans (hb3.mono (by omega))⟩
        · have h35' : ((c : Int) == 35) = false := beq_eq_false_iff_ne.2 (by omega)
          have h35n : ¬ (c : Int) = 35 := by omega
          by_cases h32 : c = 32
          · subst h32
            have hbk := HBK.out rfl
            have HBK2 := Lib.hid hbk
            have hex : (s.extract f i).size ≤ 100000 := by
              have := nats_len (s.extract f i)
              rw [nats_extract, List.length_take, List.length_drop, nats_len] at this
              omega
            clear hbk HBK HSP HO
            go_wp2_with fail
            refine (keep_any (w.heap.size + 1) _ (ps.map strN) (s.extract f i) _ (HS2.out _) hwr2 hex (by rw [List.length_map]; omega)).mono ?_
            rintro e w3 ⟨v3, rfl, hs3, hb3⟩
            rw [adds_eq, nats_extract] at hs3
            have hit3 : w3.heap[w.heap.size]? = some (.stringIter s (i + 1)) := (hb3.block w.heap.size (by omega)).trans hit2
            have hbw3 := hbw2.trans (hb3.mono (by omega))
            have HS3 := Lib.hid hs3
            clear hs3 hb3
            go_wp2_with fail
            refine ⟨⟨i + 1, i + 1, ps ++ fl (((nats s).drop f).take (i - f)), Nat.le_refl _, by omega, hit3, congrArg (Value.int .i64) (by omega), rfl, HS3, HBK2, hbw3⟩, ?_⟩
            simp only [World.iterPos, hit3, hit]
            omega
          · have h32' : ((c : Int) == 32) = false := beq_eq_false_iff_ne.2 (by omega)
            have h32n : ¬ (c : Int) = 32 := by omega
            have ho := HO.out h35 h32
            have HO2 := Lib.hid ho
            clear ho HO HBK HSP
            go_wp2_with fail
            refine ⟨⟨i + 1, f, ps, by omega, by omega, hit2, rfl, rfl, Lib.hid (HS2.out _), HO2, hbw2⟩, ?_⟩
            simp only [World.iterPos, hit2, hit]
            omega
      · have hnx : ∀ ty, (Instr.next (.pointer (some ⟨w.heap.size, 0, none⟩)) true ty).run Tryd.prog wr = _ := fun ty => Lib.run_next_any_at wr w.heap.size s i ty hit hp
        have hhi := (decode_high s i hp (by omega)).1
        obtain ⟨s1, s2, s3⟩ := decode_span s i hp (by omega)
        have hspan := HA.out.span hfi (q := i + (Utf8.decode s i).2) (by omega) (by rw [nats_len]; exact s1) s3
        have hs2 : i < i + (Utf8.decode s i).2 := by omega
        generalize hrr : (Utf8.decode s i).1 = r at hnx hd1 hhi
        generalize hpp : i + (Utf8.decode s i).2 = q at hnx hspan s1 hs2
        have h35' : ((r : Int) == 35) = false := beq_eq_false_iff_ne.2 (by omega)
        have h32' : ((r : Int) == 32) = false := beq_eq_false_iff_ne.2 (by omega)
        have h35n : ¬ (r : Int) = 35 := by omega
        have h32n : ¬ (r : Int) = 32 := by omega
        have HO2 := Lib.hid hspan
        have HS2 := Lib.hid (fun q => HS.out.iterAt (pos' := q) hit)
        have hit2 := Lib.iterAt_heap wr w.heap.size s i q hit
        have hbw2 := Lib.below_iterAt hbw (Nat.le_refl _) s q
        clear hnn hrr hpp s2 s3 hspan
        go_wp2_with fail
        refine ⟨⟨q, f, ps, by omega, s1, hit2, rfl, rfl, Lib.hid (HS2.out _), HO2, hbw2⟩, ?_⟩
        simp only [World.iterPos, hit2, hit]
        omega
    · have hnx : ∀ ty, (Instr.next (.pointer (some ⟨w.heap.size, 0, none⟩)) true ty).run Tryd.prog wr = _ := fun ty => Lib.run_next_end_at wr w.heap.size s i ty hit (by omega)
      have hend := HA.out.end_ (by rw [nats_len]; omega)
      have hii : i = s.size := by omega
      rw [hii] at hend
      have HE := Lib.hid hend
      have hfl : (f : Int) ≤ (s.size : Int) := by omega
      have hfs : f ≤ s.size := by omega
      clear hend hii
      have hex : (s.extract f s.size).size ≤ 100000 := by
        have := nats_len (s.extract f s.size)
        rw [nats_extract, List.length_take, List.length_drop, nats_len] at this
        omega
      go_wp2_with fail
      refine (keep_any (w.heap.size + 1) _ (ps.map strN) (s.extract f s.size) _ HS.out hwr hex (by rw [List.length_map]; omega)).mono ?_
      rintro e w3 ⟨v3, rfl, hs3, hb3⟩
      rw [adds_eq, nats_extract, ← HE.out] at hs3
      go_wp2_with fail
      go_ret
      exact ⟨_, rfl, hs3.mono (by omega), hbw.trans (hb3.mono (by omega))⟩
end Go.Proofs.YtefnojomjdeghaaDoor
