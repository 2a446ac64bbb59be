/- Layer 8: the document's key. -/
import Derived.Test.YtiblmlmkpilgmaaOp4M
import Derived.Test.YtiblmlmkpilgmaaPkR
namespace Go.Proofs.Ytiblmlmkpilgmaa
open Go.RowKit
set_option linter.unusedVariables false
set_option linter.unusedSimpArgs false

theorem keyOf8 {lb : List Nat} (hb : ∀ x ∈ lb, x < 256) (hl : lb.length = 8) : KeyIs 1 lb (ub (lb.take 8)) 0 false := by
  have e : lb.take 8 = lb := List.take_of_length_le (by omega)
  have h := be_ub lb hb
  rw [hl] at h
  exact ⟨rfl, by rw [e]; unfold keyB tagB; rw [h]; simp, by rw [e]; exact ub_lt 8 lb hl hb, by unfold q64; omega, fun _ => rfl⟩
theorem keyOf16 {lb : List Nat} (hb : ∀ x ∈ lb, x < 256) (hl : lb.length = 16) : KeyIs 1 lb (ub (lb.take 8)) (ub ((lb.drop 8).take 8)) true := by
  have l1 : (lb.take 8).length = 8 := by rw [List.length_take]; omega
  have l2 : (lb.drop 8).length = 8 := by rw [List.length_drop]; omega
  have b1 : ∀ x ∈ lb.take 8, x < 256 := fun x hx => hb x (List.mem_of_mem_take hx)
  have b2 : ∀ x ∈ lb.drop 8, x < 256 := fun x hx => hb x (List.mem_of_mem_drop hx)
  have e2 : (lb.drop 8).take 8 = lb.drop 8 := List.take_of_length_le (by omega)
  have h1 := be_ub _ b1
  have h2 := be_ub _ b2
  rw [l1] at h1
  rw [l2] at h2
  exact ⟨rfl, by rw [e2]; unfold keyB tagB; rw [h1, if_pos rfl, h2, List.take_append_drop], ub_lt 8 _ l1 b1, by rw [e2]; exact ub_lt 8 _ l2 b2, fun h => by cases h⟩
theorem keyLen {kd : Nat} {lb : List Nat} {k t : Nat} {a : Bool} (h : KeyIs kd lb k t a) : lb.length = 8 ∨ lb.length = 16 := by
  rw [h.hb]
  unfold keyB
  rw [List.length_append, be_len, tagB_len]
  cases a <;> simp
def RKeyPost (kd : Nat) (lb : List Nat) (e : Ending) : Prop :=
  (∃ (k t : Nat) (a : Bool), e = .returned (.tuple #[.int .u64 (k : Int), .int .u64 (t : Int), .bool a, .bool true]) ∧ KeyIs kd lb k t a) ∨ (e = .returned (.tuple #[.int .u64 0, .int .u64 0, .bool false, .bool false]) ∧ ∀ (k t : Nat) (a : Bool), ¬ KeyIs kd lb k t a)
theorem RKeyPost.no {kd : Nat} {lb : List Nat} (h : ∀ (k t : Nat) (a : Bool), ¬ KeyIs kd lb k t a) : RKeyPost kd lb (.returned (.tuple #[.int .u64 0, .int .u64 0, .bool false, .bool false])) := .inr ⟨rfl, h⟩
set_option maxRecDepth 20000 in
set_option maxHeartbeats 2000000 in
theorem rparseKey_any (kd : Nat) (A : Option Addr) (n c : Nat) (lb : List Nat) (w : World) (h : Rd w w.heap.size 1 A n (ns .u8 lb)) (hnc : n ≤ c) (hb : ∀ x ∈ lb, x < 256) (hn : n ≤ 10000) :
    Calls Try.prog 28 #[.agg #[.int .u8 (kd : Int), .slice A n c]] w fun e w' => RKeyPost kd lb e ∧ Below w.heap.size w w' := by
  have hb0 : Below w.heap.size w (w.alloc (.cells #[.int .u8 (kd : Int), .slice A n c] 39)) := (Below.refl _ _).alloc (Nat.le_refl _) _
  have B0 := Lib.hid hb0
  have HB := Lib.hid hb
  have HR := Lib.hid h
  have HL := Lib.hid h.natLen
  clear hb0 hb h
  go_enter Try.func28, Try.ntmps28
  by_cases hkd : kd = 1
  rotate_left
  · have hkd1 : ((kd : Int) != 1) = true := by simp; omega
    have HKD := Lib.hid hkd
    clear hkd
    go_wp2_with fail
    exact bodyPost_ret (v := .tuple #[.int .u64 0, .int .u64 0, .bool false, .bool false]) (by simp [results, Try.results28, go_sem]) rfl ⟨RKeyPost.no fun k t a h => HKD.out h.hkd, B0.out⟩
  subst hkd
  by_cases h8 : n = 8
  · subst h8
    go_wp2_with fail
    generalize w.alloc (.cells #[.int .u8 1, .slice A 8 c] 39) = W at *
    refine (rget_any A 8 c lb 8 w.heap.size W (HR.out.below B0.out) hnc HB.out (by omega)).mono ?_
    rintro e w1 ⟨hb1, hp⟩
    have B1 := Lib.hid (B0.out.trans (hb1.mono B0.out.size))
    rcases hp with ⟨t, A', n', c', e1, _, _, e2, hn', rfl, hr⟩ | ⟨hbad, rfl⟩
    · obtain rfl : t = 8 := by omega
      obtain rfl : n' = 0 := by omega
      have HR2 := Lib.hid (hr.below (hb1.mono B0.out.size))
      clear hb1 hr e1 e2
      go_wp2_with fail
      refine (rget_any A' 0 c' (lb.drop 8) 8 w.heap.size w1 HR2.out hn' (fun x hx => HB.out x (List.mem_of_mem_drop hx)) (by omega)).mono ?_
      rintro e w2 ⟨hb2, hp⟩
      have B2 := Lib.hid (B1.out.trans (hb2.mono B1.out.size))
      rcases hp with ⟨t, A3, n3, c3, e1, h1, h2, e2, _, rfl, _⟩ | ⟨_, rfl⟩
      · omega
      · have HIS := Lib.hid (keyOf8 HB.out HL.out)
        generalize ub (lb.take 8) = k at *
        clear hb2
        go_wp2_with fail
        exact bodyPost_ret (v := .tuple #[.int .u64 (k : Int), .int .u64 0, .bool false, .bool true]) (by simp [results, Try.results28, go_sem]) rfl ⟨.inl ⟨k, 0, false, rfl, HIS.out⟩, B2.out⟩
    · exfalso
      rcases hbad with h | h
      · cases h
      · exact h (by show (8 : Int).toNat ≤ 8; omega)
  by_cases h16 : n = 16
  · subst h16
    go_wp2_with fail
    generalize w.alloc (.cells #[.int .u8 1, .slice A 16 c] 39) = W at *
    refine (rget_any A 16 c lb 8 w.heap.size W (HR.out.below B0.out) hnc HB.out (by omega)).mono ?_
    rintro e w1 ⟨hb1, hp⟩
    have B1 := Lib.hid (B0.out.trans (hb1.mono B0.out.size))
    rcases hp with ⟨t, A', n', c', e1, _, _, e2, hn', rfl, hr⟩ | ⟨hbad, rfl⟩
    · obtain rfl : t = 8 := by omega
      obtain rfl : n' = 8 := by omega
      have HR2 := Lib.hid (hr.below (hb1.mono B0.out.size))
      clear hb1 hr e1 e2
      go_wp2_with fail
      refine (rget_any A' 8 c' (lb.drop 8) 8 w.heap.size w1 HR2.out hn' (fun x hx => HB.out x (List.mem_of_mem_drop hx)) (by omega)).mono ?_
      rintro e w2 ⟨hb2, hp⟩
      have B2 := Lib.hid (B1.out.trans (hb2.mono B1.out.size))
      rcases hp with ⟨t, A3, n3, c3, e1, h1, h2, e2, _, rfl, _⟩ | ⟨hbad, rfl⟩
      · obtain rfl : t = 8 := by omega
        have HIS := Lib.hid (keyOf16 HB.out HL.out)
        generalize ub (lb.take 8) = k at *
        generalize ub ((lb.drop 8).take 8) = t at *
        clear hb2 e1 e2 h1 h2
        go_wp2_with fail
        exact bodyPost_ret (v := .tuple #[.int .u64 (k : Int), .int .u64 (t : Int), .bool true, .bool true]) (by simp [results, Try.results28, go_sem]) rfl ⟨.inl ⟨k, t, true, rfl, HIS.out⟩, B2.out⟩
      · exfalso
        rcases hbad with h | h
        · cases h
        · exact h (by show (8 : Int).toNat ≤ 8; omega)
    · exfalso
      rcases hbad with h | h
      · cases h
      · exact h (by show (8 : Int).toNat ≤ 16; omega)
  have d8 : ((n : Int) != 8) = true := by simp; omega
  have d16 : ((n : Int) != 16) = true := by simp; omega
  have HNN := Lib.hid (And.intro h8 h16)
  clear h8 h16
  go_wp2_with fail
  exact bodyPost_ret (v := .tuple #[.int .u64 0, .int .u64 0, .bool false, .bool false]) (by simp [results, Try.results28, go_sem]) rfl ⟨RKeyPost.no fun k t a h => by have := keyLen h; have := HNN.out; have := HL.out; omega, B0.out⟩
end Go.Proofs.Ytiblmlmkpilgmaa
