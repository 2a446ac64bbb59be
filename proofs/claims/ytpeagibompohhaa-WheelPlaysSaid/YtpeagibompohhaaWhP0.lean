/- Layer 29: what WheelPlays rests on. -/
import Derived.Test.YtpeagibompohhaaWhR2
import Derived.Test.YtpeagibompohhaaOpenWh
namespace Go.Proofs.Ytpeagibompohhaa
open Go.RowKit
set_option linter.unusedVariables false
set_option linter.unusedSimpArgs false
theorem WA.solo {w w' : World} {g B mb most now k : Nat} {sl : List Value} {L : List Tm} {t : TypeId} {cs : Array Value} (h : WA w g B mb most now sl L) (hs : Solo k w w') (hb : Blk w k t cs) (h1 : t ≠ 54) (h2 : t ≠ 3) : WA w' g B mb most now sl L := by
  obtain ⟨S, f, hw, hm, hl⟩ := h.ex
  refine ⟨⟨S, f, hw.same (hs.2.2 g fun e => ?_) fun p v j hv hj => hs.2.2 j fun e => ?_, hm.same (hs.2.2 mb fun e => hm.ne (e ▸ hb) rfl), hl⟩, h.due, h.len, h.most⟩
  · subst e
    have := hw.blk
    unfold Blk at this hb
    rw [this] at hb
    injection hb with hb
    injection hb with _ hb
    exact h1 hb.symm
  · subst e
    obtain ⟨v', l, e1, e2, _, hz⟩ := hw.place (p := p) (by rw [← hw.sll]; exact get_lt hv)
    rw [hv] at e1
    injection e1 with e1
    subst e1
    exact own_nw hz hb (Ne.symm h2) hj
/-- What is newer than a wheel stays. -/
theorem WA.farNew {w3 w5 w6 : World} {g B mb most now k : Nat} {sl sl' : List Value} {L : List Tm} (h : WA w3 g B mb most now sl L) (hk : KeptW g mb sl sl' w5 w6) (h1 : w3.heap.size ≤ k) (h2 : k < w5.heap.size) : w6.heap[k]? = w5.heap[k]? := by
  obtain ⟨S, f, hw, hm, hl⟩ := h.ex
  refine hk.same k h2 (fun e => by have := hw.lt; omega) (fun e => by have := hm.lt; omega) fun p v hv hvk => ?_
  obtain ⟨v', l, e1, e2, _, hz⟩ := hw.place (p := p) (by rw [← hw.sll]; exact get_lt hv)
  rw [hv] at e1
  injection e1 with e1
  subst e1
  have := (hz.lt k hvk).2
  omega
theorem TOwn.far {w w' : World} {g B B' mb most now : Nat} {sl sl' : List Value} {L M : List Tm} {v : Value} (h : TOwn w B' v M) (hw : WA w g B mb most now sl L) (hk : KeptW g mb sl sl' w w') : TOwn w' B' v M :=
  own_kept h fun k hk' => by
    rcases own_open h with ⟨rfl, _, _⟩ | ⟨rb, c, L', rfl, _, hr, _⟩
    · simp [Value.ownBlock] at hk'
    · simp [Value.ownBlock] at hk'
      subst hk'
      exact hw.far hk hr (by decide) (by decide)
theorem TOwn.rd {w : World} {B n c : Nat} {A : Option Addr} {L : List Tm} (h : TOwn w B (.slice A n c) L) : Rd w w.heap.size 2 A n (tcs L) ∧ L.length = n := by
  obtain ⟨A', c', e, _, _, h2⟩ := own_form h
  injection e with e1 e2 e3
  subst e1 e2
  exact ⟨h2, rfl⟩
def NextPost (L : List Tm) (now : Nat) (e : Ending) : Prop := (L = [] ∧ e = .returned (.tuple #[.int .i64 0, .bool false])) ∨ ∃ t, IsMin L t ∧ e = .returned (.tuple #[.int .i64 ((t - now : Nat) : Int), .bool true])
theorem next_val (L : List Tm) (now : Nat) : ∃ (a : Int) (b : Bool), ∀ e, NextPost L now e → e = .returned (.tuple #[.int .i64 a, .bool b]) := by
  by_cases h : ∃ t, IsMin L t
  · obtain ⟨t, ht⟩ := h
    refine ⟨((t - now : Nat) : Int), true, fun e he => ?_⟩
    rcases he with ⟨rfl, _⟩ | ⟨u, hu, rfl⟩
    · obtain ⟨⟨x, hx, _⟩, _⟩ := ht; cases hx
    · rw [hu.uniq ht]
  · refine ⟨0, false, fun e he => ?_⟩
    rcases he with ⟨_, rfl⟩ | ⟨u, hu, rfl⟩
    · rfl
    · exact absurd ⟨u, hu⟩ h
def DuePost (L : List Tm) (now : Nat) (id : Int) (e : Ending) : Prop := ((∀ t, (id, t) ∉ L) ∧ e = .returned (.tuple #[.int .i64 0, .bool false])) ∨ ∃ t, (id, t) ∈ L ∧ e = .returned (.tuple #[.int .i64 ((t - now : Nat) : Int), .bool true])
theorem due_val (L : List Tm) (now : Nat) (id : Int) (hu : ∀ t u, (id, t) ∈ L → (id, u) ∈ L → t = u) : ∃ (a : Int) (b : Bool), ∀ e, DuePost L now id e → e = .returned (.tuple #[.int .i64 a, .bool b]) := by
  by_cases h : ∃ t, (id, t) ∈ L
  · obtain ⟨t, ht⟩ := h
    refine ⟨((t - now : Nat) : Int), true, fun e he => ?_⟩
    rcases he with ⟨hn, _⟩ | ⟨u, hu2, rfl⟩
    · exact absurd ht (hn t)
    · rw [hu u t hu2 ht]
  · refine ⟨0, false, fun e he => ?_⟩
    rcases he with ⟨_, rfl⟩ | ⟨u, hu2, rfl⟩
    · rfl
    · exact absurd ⟨u, hu2⟩ h
theorem WA.one {w : World} {g B mb most now : Nat} {sl : List Value} {L : List Tm} (h : WA w g B mb most now sl L) (id : Int) : ∀ t u, (id, t) ∈ L → (id, u) ∈ L → t = u := by
  obtain ⟨S, f, _, _, hl⟩ := h.ex
  exact fun t u h1 h2 => hl.one h1 h2
theorem wdueU (g B mb most now : Nat) (id : Int) (sl : List Value) (L : List Tm) (w : World) (h : WA w g B mb most now sl L) (hn : now ≤ 4000000000) (hid : I64 id) :
    Calls Try.prog 15 #[.pointer (some ⟨g, 0, none⟩), .int .i64 id] w fun e w' => DuePost L now id e ∧ Below w.heap.size w w' := by
  by_cases hm : ∃ t, (id, t) ∈ L
  · obtain ⟨t, ht⟩ := hm
    refine (wdueI g B mb most now t id sl L w h hn hid ht).mono ?_
    rintro e w' ⟨rfl, hb⟩
    exact ⟨.inr ⟨t, ht, rfl⟩, hb⟩
  · have hno : ∀ t, (id, t) ∉ L := fun t ht => hm ⟨t, ht⟩
    refine (wdueI_no g B mb most now id sl L w h hid hno).mono ?_
    rintro e w' ⟨rfl, hb⟩
    exact ⟨.inl ⟨hno, rfl⟩, hb⟩
theorem rdueU (A : Option Addr) (n c B now most : Nat) (L : List Tm) (id : Int) (w : World) (h : Rd w B 2 A n (tcs L)) (hn : n ≤ 4500) (hB : B ≤ w.heap.size) (hnow : now ≤ 4000000000) (hbd : ∀ x ∈ L, now < x.2 ∧ x.2 ≤ now + 65535) (hu : ∀ t u, (id, t) ∈ L → (id, u) ∈ L → t = u) :
    Calls Try.prog 16 #[.agg #[.int .i64 (now : Nat), .int .i64 (most : Nat), .slice A n c], .int .i64 id] w fun e w' => DuePost L now id e ∧ Below w.heap.size w w' := by
  by_cases hm : ∃ t, (id, t) ∈ L
  · obtain ⟨t, ht⟩ := hm
    have h1 := hbd _ ht
    simp only at h1
    refine (rdue_yes A n c B now most t L id w h (by omega) hB hnow (by omega) ht (fun y hy => hu y t hy ht) (by omega)).mono ?_
    rintro e w' ⟨rfl, hb⟩
    exact ⟨.inr ⟨t, ht, rfl⟩, hb⟩
  · have hno : ∀ t, (id, t) ∉ L := fun t ht => hm ⟨t, ht⟩
    refine (rdue_no A n c B now most L id w h (by omega) hB hno).mono ?_
    rintro e w' ⟨rfl, hb⟩
    exact ⟨.inl ⟨hno, rfl⟩, hb⟩
set_option maxRecDepth 20000 in
theorem rnew_any (most : Int) (w : World) :
    Calls Try.prog 7 #[.int .i64 most] w fun e w' => e = .returned (.agg #[.int .i64 ((0 : Nat) : Int), .int .i64 (mostN most : Nat), .slice none 0 0]) ∧ Below w.heap.size w w' := by
  by_cases h0 : most < 0
  · have e : mostN most = 0 := by unfold mostN; rw [if_pos h0]
    rw [e]
    go_enter Try.func7, Try.ntmps7
    go_wp2_with fail
    exact bodyPost_ret (results_agg Try.results7 (Blk.new w _ _) (by rfl) (by kernel_rfl) (by kernel_rfl)) rfl ⟨rfl, (Below.refl _ _).alloc (Nat.le_refl _) _⟩
  by_cases h4 : 4096 < most
  · have e : mostN most = 4096 := by unfold mostN; rw [if_neg h0, if_pos h4]
    rw [e]
    go_enter Try.func7, Try.ntmps7
    go_wp2_with fail
    exact bodyPost_ret (results_agg Try.results7 (Blk.new w _ _) (by rfl) (by kernel_rfl) (by kernel_rfl)) rfl ⟨rfl, (Below.refl _ _).alloc (Nat.le_refl _) _⟩
  · have e : ((mostN most : Nat) : Int) = most := by unfold mostN; rw [if_neg h0, if_neg h4]; omega
    rw [e]
    go_enter Try.func7, Try.ntmps7
    go_wp2_with fail
    exact bodyPost_ret (results_agg Try.results7 (Blk.new w _ _) (by rfl) (by kernel_rfl) (by kernel_rfl)) rfl ⟨rfl, (Below.refl _ _).alloc (Nat.le_refl _) _⟩
set_option maxRecDepth 20000 in
theorem row29_any (A A2 : Option Addr) (n c n2 c2 B B2 : Nat) (l : List Int) (w : World) (h : Rd w B 1 A n (zs .i64 l)) (h2 : Rd w B2 1 A2 n2 (zs .i64 l)) (hn : n ≤ 1000000) :
    Calls Try.prog 11 #[.slice A n c, .slice A2 n2 c2] w fun e w' => e = .returned (.bool true) ∧ Below w.heap.size w w' := by
  have e1 := h.intLen
  have e2 := h2.intLen
  obtain rfl : n2 = n := by omega
  have HR := Lib.hid h
  have HR2 := Lib.hid h2
  clear h h2 e1 e2
  go_enter Try.func11, Try.ntmps11
  go_wp2_with fail
  go_loopw [5] (fun iv wr => ∃ (i : Nat), i ≤ n2 ∧ iv = .int .i64 (i : Nat) ∧ Hid (∃ q, wr = w.drewN q)) (fun iv _ => n2 - (intOf iv).toNat)
  case atStart => exact ⟨0, Nat.zero_le _, rfl, Lib.hid ⟨0, rfl⟩⟩
  case round =>
    obtain ⟨i, hi, rfl, HQ⟩ := hrel
    by_cases hlt : i < n2
    · have hlt' : (i : Int) < (n2 : Int) := by omega
      obtain ⟨b, o, x, rfl, _, q0, hx⟩ := HR.out.nthz hlt
      obtain ⟨b2, o2, x2, rfl, _, q2, hx2⟩ := HR2.out.nthz hlt
      obtain rfl : x2 = x := Option.some.inj (hx2.out.symm.trans hx.out)
      have p0 : wr.cell? ⟨b, o + i, none⟩ = some (.int .i64 x2) := by obtain ⟨q, rfl⟩ := HQ.out; exact q0
      have p2 : wr.cell? ⟨b2, o2 + i, none⟩ = some (.int .i64 x2) := by obtain ⟨q, rfl⟩ := HQ.out; exact q2
      clear hx hx2 q0 q2
      go_wp2_with fail
      go_quiet (fail)
      go_wp2_with fail
      go_roundw
      case rel => exact ⟨i + 1, by omega, by go_num, Lib.hid (by obtain ⟨q, rfl⟩ := HQ.out; exact ⟨_, World.drewN_drewN _ _ _⟩)⟩
      case measure => simp [intOf]; omega
    · have hlt' : ¬ (i : Int) < (n2 : Int) := by omega
      go_wp2_with fail
      go_ret
      obtain ⟨q, rfl⟩ := HQ.out
      exact ⟨rfl, below_drewN (Below.refl _ _) _⟩
end Go.Proofs.Ytpeagibompohhaa
