/- Package wheel: a wheel in memory; Now, Len, place. -/
import Derived.Test.YtpeagibompohhaaWhM
import Derived.Test.YtpeagibompohhaaWhMap
import Derived.Test.YtpeagibompohhaaPut
import Derived.Test.YtpeagibompohhaaTou
import Derived.Test.YtpeagibompohhaaSz2
import Derived.OwnWalk
import Derived.BigQuiet
import Derived.RegionTactic
import Derived.ChangeAlike
import Derived.Deep.Cut
import Derived.Deep.QuietTactic
import Derived.Deep.RegionWith
namespace Go.Proofs.Ytpeagibompohhaa
open Go.RowKit
set_option linter.unusedVariables false
set_option linter.unusedSimpArgs false
/-- The cells of a wheel: its bound, its tick, its map, its 64 places. -/
def wcs (most now mb : Nat) (sl : List Value) : List Value := .int .i64 (most : Nat) :: .int .i64 (now : Nat) :: .map (some mb) :: sl
/-- A wheel's places: which numbers stand there. -/
structure WS (w : World) (g B mb most now : Nat) (sl : List Value) (S : List (List Int)) : Prop where
  blk : Blk w g 54 (wcs most now mb sl).toArray
  sll : sl.length = 64
  ssl : S.length = 64
  rows : ∀ (p : Nat) (v : Value) (l : List Int), sl[p]? = some v → S[p]? = some l → Zats w 3 .i64 B v l
  apart : ∀ (p q : Nat) (v u : Value) (k : Nat), p ≠ q → sl[p]? = some v → sl[q]? = some u → v.ownBlock = some k → u.ownBlock ≠ some k
  bg : B ≤ g
section
variable {w w' : World} {g B mb most now : Nat} {sl : List Value} {S : List (List Int)}
theorem WS.c0 (h : WS w g B mb most now sl S) : w.cell? ⟨g, 0, none⟩ = some (.int .i64 (most : Nat)) := by rw [h.blk.cell]; rfl
theorem WS.c1 (h : WS w g B mb most now sl S) : w.cell? ⟨g, 1, none⟩ = some (.int .i64 (now : Nat)) := by rw [h.blk.cell]; rfl
theorem WS.c2 (h : WS w g B mb most now sl S) : w.cell? ⟨g, 2, none⟩ = some (.map (some mb)) := by rw [h.blk.cell]; rfl
theorem WS.place (h : WS w g B mb most now sl S) {p : Nat} (hp : p < 64) : ∃ v l, sl[p]? = some v ∧ S[p]? = some l ∧ w.cell? ⟨g, 3 + p, none⟩ = some v ∧ Zats w 3 .i64 B v l := by
  have h1 : sl[p]? = some sl[p]! := by rw [getElem!_pos sl p (by rw [h.sll]; exact hp)]; exact List.getElem?_eq_getElem _
  have h2 : S[p]? = some S[p]! := by rw [getElem!_pos S p (by rw [h.ssl]; exact hp)]; exact List.getElem?_eq_getElem _
  refine ⟨_, _, h1, h2, ?_, h.rows p _ _ h1 h2⟩
  rw [h.blk.cell, ← h1]
  simp [wcs, show 3 + p = p + 1 + 1 + 1 by omega]
theorem WS.lt (h : WS w g B mb most now sl S) : g < w.heap.size := h.blk.lt
theorem WS.below {B' : Nat} (h : WS w g B mb most now sl S) (hb : Below B' w w') (hB : w.heap.size ≤ B') : WS w' g B mb most now sl S :=
  ⟨h.blk.below hb (Nat.lt_of_lt_of_le h.lt hB), h.sll, h.ssl, fun p v l h1 h2 => own_below (h.rows p v l h1 h2) hb fun k hk => Nat.lt_of_lt_of_le ((h.rows p v l h1 h2).lt k hk).2 hB, h.apart, h.bg⟩
theorem WS.into (h : WS w g B mb most now sl S) (hb : Below w.heap.size w w') : WS w' g B mb most now sl S := h.below hb (Nat.le_refl _)
end
theorem wnow_any (g B mb most now : Nat) (sl : List Value) (S : List (List Int)) (w : World) (h : WS w g B mb most now sl S) :
    Calls Try.prog 19 #[.pointer (some ⟨g, 0, none⟩)] w fun e w' => e = .returned (.int .i64 (now : Nat)) ∧ w' = w := by
  have c1 := h.c1
  clear h
  go_enter Try.func19, Try.ntmps19
  go_wp2_with fail
  go_ret
  exact ⟨rfl, rfl⟩
theorem wlen_any (g B mb most now sz : Nat) (sl : List Value) (S : List (List Int)) (f : Fm) (w : World) (h : WS w g B mb most now sl S) (hm : MapW w mb f sz) :
    Calls Try.prog 20 #[.pointer (some ⟨g, 0, none⟩)] w fun e w' => e = .returned (.int .i64 (sz : Nat)) ∧ w' = w := by
  have c2 := h.c2
  have hl := fun ty => hm.len ty
  clear h hm
  go_enter Try.func20, Try.ntmps20
  go_wp2_with fail
  go_ret
  exact ⟨rfl, rfl⟩
set_option maxRecDepth 20000 in
set_option maxHeartbeats 2000000 in
theorem wplace_any (g B mb most now t : Nat) (sl : List Value) (S : List (List Int)) (w : World) (h : WS w g B mb most now sl S) (hn : now ≤ 4294967296) (ht : t ≤ 4294967296) :
    Calls Try.prog 22 #[.pointer (some ⟨g, 0, none⟩), .int .i64 (t : Nat)] w fun e w' => e = .returned (.pointer (some ⟨g, 3 + plW now t, none⟩)) ∧ ∃ q, w' = w.drewN q := by
  have c1 := h.c1
  have hc := Lib.hid (rdW_cases now t)
  clear h
  go_enter Try.func22, Try.ntmps22
  go_wp2_with fail
  go_loopw [5, 6] (fun rv sv wr => ∃ r : Nat, r ≤ rdW now t ∧ rv = .int .i64 (r : Nat) ∧ sv = .int .i64 (p16 r : Nat) ∧ Hid (∃ q, wr = w.drewN q)) (fun rv _ _ => 3 - (intOf rv).toNat)
  case atStart => exact ⟨0, Nat.zero_le _, rfl, rfl, Lib.hid ⟨0, rfl⟩⟩
  case round =>
    obtain ⟨r, hr, rfl, rfl, HQ⟩ := hrel
    have hle := rdW_le now t
    have d1 : wr.cell? ⟨g, 1, none⟩ = some (.int .i64 (now : Nat)) := by obtain ⟨q, rfl⟩ := HQ.out; exact c1
    rcases (show r = 0 ∨ r = 1 ∨ r = 2 ∨ r = 3 by omega) with rfl | rfl | rfl | rfl
    · simp only [p16]
      by_cases he : t / 16 = now / 16
      · have he' : (t : Int) / 16 = (now : Int) / 16 := by omega
        have hp : 3 + plW now t = 3 + (t % 16) := by
          have h0 : rdW now t = 0 := by have := hc.out; omega
          unfold plW; rw [h0]; show 3 + (16 * 0 + t % 16) = _; omega
        have HP := Lib.hid hp
        clear hp
        go_wp2_with fail
        go_quiet (fail)
        go_wp2_with fail
        go_quiet (fail)
        go_wp2_with fail
        go_ret
        refine ⟨by rw [HP.out]; rfl, ?_⟩
        obtain ⟨q, rfl⟩ := HQ.out; exact ⟨_, by rw [World.drewN_drewN, World.drewN_drewN]⟩
      · have he' : ¬ (t : Int) / 16 = (now : Int) / 16 := by omega
        have hr2 : 0 + 1 ≤ rdW now t := by have := hc.out; omega
        go_wp2_with fail
        go_quiet (fail)
        go_wp2_with fail
        go_roundw
        case rel => exact ⟨0 + 1, hr2, by go_num, by go_num, Lib.hid (by obtain ⟨q, rfl⟩ := HQ.out; exact ⟨_, World.drewN_drewN _ _ _⟩)⟩
        case measure => simp [intOf]
    · simp only [p16]
      by_cases he : t / 16 / 16 = now / 16 / 16
      · have he' : (t : Int) / 16 / 16 = (now : Int) / 16 / 16 := by omega
        have hp : 3 + plW now t = 19 + (t / 16 % 16) := by
          have h0 : rdW now t = 1 := by have := hc.out; omega
          unfold plW; rw [h0]; show 3 + (16 * 1 + t / 16 % 16) = _; omega
        have HP := Lib.hid hp
        clear hp
        go_wp2_with fail
        go_quiet (fail)
        go_wp2_with fail
        go_quiet (fail)
        go_wp2_with fail
        go_ret
        refine ⟨by rw [HP.out]; rfl, ?_⟩
        obtain ⟨q, rfl⟩ := HQ.out; exact ⟨_, by rw [World.drewN_drewN, World.drewN_drewN]⟩
      · have he' : ¬ (t : Int) / 16 / 16 = (now : Int) / 16 / 16 := by omega
        have hr2 : 1 + 1 ≤ rdW now t := by have := hc.out; omega
        go_wp2_with fail
        go_quiet (fail)
        go_wp2_with fail
        go_roundw
        case rel => exact ⟨1 + 1, hr2, by go_num, by go_num, Lib.hid (by obtain ⟨q, rfl⟩ := HQ.out; exact ⟨_, World.drewN_drewN _ _ _⟩)⟩
        case measure => simp [intOf]
    · simp only [p16]
      by_cases he : t / 256 / 16 = now / 256 / 16
      · have he' : (t : Int) / 256 / 16 = (now : Int) / 256 / 16 := by omega
        have hp : 3 + plW now t = 35 + (t / 256 % 16) := by
          have h0 : rdW now t = 2 := by have := hc.out; omega
          unfold plW; rw [h0]; show 3 + (16 * 2 + t / 256 % 16) = _; omega
        have HP := Lib.hid hp
        clear hp
        go_wp2_with fail
        go_quiet (fail)
        go_wp2_with fail
        go_quiet (fail)
        go_wp2_with fail
        go_ret
        refine ⟨by rw [HP.out]; rfl, ?_⟩
        obtain ⟨q, rfl⟩ := HQ.out; exact ⟨_, by rw [World.drewN_drewN, World.drewN_drewN]⟩
      · have he' : ¬ (t : Int) / 256 / 16 = (now : Int) / 256 / 16 := by omega
        have hr2 : 2 + 1 ≤ rdW now t := by have := hc.out; omega
        go_wp2_with fail
        go_quiet (fail)
        go_wp2_with fail
        go_roundw
        case rel => exact ⟨2 + 1, hr2, by go_num, by go_num, Lib.hid (by obtain ⟨q, rfl⟩ := HQ.out; exact ⟨_, World.drewN_drewN _ _ _⟩)⟩
        case measure => simp [intOf]
    · simp only [p16]
      have hp : 3 + plW now t = 51 + t / 4096 % 16 := by
        have h0 : rdW now t = 3 := by have := hc.out; omega
        unfold plW; rw [h0]; show 3 + (16 * 3 + t / 4096 % 16) = _; omega
      have HP := Lib.hid hp
      clear hp
      go_wp2_with fail
      go_quiet (fail)
      go_wp2_with fail
      go_quiet (fail)
      go_wp2_with fail
      go_ret
      refine ⟨by rw [HP.out]; rfl, ?_⟩
      obtain ⟨q, rfl⟩ := HQ.out; exact ⟨_, by rw [World.drewN_drewN, World.drewN_drewN]⟩
end Go.Proofs.Ytpeagibompohhaa
