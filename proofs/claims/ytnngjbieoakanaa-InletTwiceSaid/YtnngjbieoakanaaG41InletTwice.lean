/- Layer 18: the document's inlet: Fin. -/
import Derived.Test.YtnngjbieoakanaaG39InletTwice
import Derived.Test.YtnngjbieoakanaaG22InletTwice
import Derived.Test.YtnngjbieoakanaaG40InletTwice

namespace Go.Proofs.Ytnngjbieoakanaa
open Go.RowKit
set_option linter.unusedVariables false
set_option linter.unusedSimpArgs false
/-- A document's inlet, as a value. -/
def XO (w : World) (B n most bmax : Nat) (v : Value) : Prop :=
  ∃ (base en : Nat) (kn : Bool) (A1 A2 : Option Addr) (c1 c2 : Nat), v = .agg #[.int .u64 (base : Int), .slice A1 n c1, .slice A2 n c2, .int .i64 (most : Int), .int .u64 (en : Int), .bool kn] ∧ base ≤ bmax ∧ XR w B n A1 c1 A2 c2
theorem XO.into {w w' : World} {B n most bmax : Nat} {v : Value} (h : XO w B n most bmax v) (hb : Below w.heap.size w w') : XO w' B n most bmax v := by
  obtain ⟨base, en, kn, A1, A2, c1, c2, h1, h2, h3⟩ := h
  exact ⟨base, en, kn, A1, A2, c1, c2, h1, h2, h3.into hb⟩
/-- What a call of the document answers: an inlet, and a truth. -/
def XP (w : World) (B n most bmax : Nat) (e : Ending) (w' : World) : Prop := ∃ v b, e = .returned (.tuple #[v, .bool b]) ∧ XO w' B n most bmax v ∧ Below w.heap.size w w'
theorem XP.mk' {w w' : World} {B n most bmax : Nat} {v : Value} {b : Bool} (h : XO w' B n most bmax v) (hb : Below w.heap.size w w') : XP w B n most bmax (.returned (.tuple #[v, .bool b])) w' := ⟨_, _, rfl, h, hb⟩
set_option maxRecDepth 20000 in
set_option maxHeartbeats 4000000 in
theorem r18_fin (base most en n : Nat) (kn : Bool) (A1 A2 : Option Addr) (c1 c2 B1 : Nat) (w : World) (hX : XR w B1 n A1 c1 A2 c2) (hn : n ≤ 200) (hb : base ≤ 100000) (q : Nat) :
    Calls Try.prog 17 #[.agg #[.int .u64 (base : Int), .slice A1 n c1, .slice A2 n c2, .int .i64 (most : Int), .int .u64 (en : Int), .bool kn], .int .u64 (q : Int)] w (XP w B1 n most base) := by
  have RN := Sh.mk fun w' (hb' : Below w.heap.size w w') => r18_next base most en n kn A1 A2 c1 c2 B1 w' (hX.into hb') hn hb
  obtain ⟨hl, hr, hc, hm⟩ := hX.rdH
  have HR := Sh.mk hr
  have HX := Sh.mk hX
  have hb : base ≤ base := Nat.le_refl _
  clear hX hr
  cases kn
  · go_enter Try.func17, Try.ntmps17
    go_upto_region 1 with fail
    have KX : Hid (Blk (w.alloc (.cells #[.int .u64 (base : Int), .slice A1 n c1, .slice A2 n c2, .int .i64 (most : Int), .int .u64 (en : Int), .bool false] 38)) (w.heap.size) 38 #[.int .u64 (base : Int), .slice A1 n c1, .slice A2 n c2, .int .i64 (most : Int), .int .u64 (en : Int), .bool false]) := Lib.hid ((Blk.new w 38 #[.int .u64 (base : Int), .slice A1 n c1, .slice A2 n c2, .int .i64 (most : Int), .int .u64 (en : Int), .bool false]))
    replace KX : Hid (Blk ((w.alloc (.cells #[.int .u64 (base : Int), .slice A1 n c1, .slice A2 n c2, .int .i64 (most : Int), .int .u64 (en : Int), .bool false] 38)).alloc (.cells #[.int .u64 0, .slice none 0 0, .slice none 0 0, .int .i64 0, .int .u64 0, .bool false] 38)) (w.heap.size) 38 #[.int .u64 (base : Int), .slice A1 n c1, .slice A2 n c2, .int .i64 (most : Int), .int .u64 (en : Int), .bool false]) := Lib.hid (KX.out.alloc _)
    have KR : Hid (Blk ((w.alloc (.cells #[.int .u64 (base : Int), .slice A1 n c1, .slice A2 n c2, .int .i64 (most : Int), .int .u64 (en : Int), .bool false] 38)).alloc (.cells #[.int .u64 0, .slice none 0 0, .slice none 0 0, .int .i64 0, .int .u64 0, .bool false] 38)) (w.heap.size + 1) 38 #[.int .u64 0, .slice none 0 0, .slice none 0 0, .int .i64 0, .int .u64 0, .bool false]) := Lib.hid ((Blk.new (w.alloc (.cells #[.int .u64 (base : Int), .slice A1 n c1, .slice A2 n c2, .int .i64 (most : Int), .int .u64 (en : Int), .bool false] 38)) 38 #[.int .u64 0, .slice none 0 0, .slice none 0 0, .int .i64 0, .int .u64 0, .bool false]) |> fun h => by simpa using h)
    have b1 : Hid (Below w.heap.size w ((w.alloc (.cells #[.int .u64 (base : Int), .slice A1 n c1, .slice A2 n c2, .int .i64 (most : Int), .int .u64 (en : Int), .bool false] 38)).alloc (.cells #[.int .u64 0, .slice none 0 0, .slice none 0 0, .int .i64 0, .int .u64 0, .bool false] 38))) := Lib.hid (((Below.refl w.heap.size w).alloc (Nat.le_refl _) (.cells #[.int .u64 (base : Int), .slice A1 n c1, .slice A2 n c2, .int .i64 (most : Int), .int .u64 (en : Int), .bool false] 38)).alloc (by simp <;> omega) (.cells #[.int .u64 0, .slice none 0 0, .slice none 0 0, .int .i64 0, .int .u64 0, .bool false] 38))
    have hz : ((w.alloc (.cells #[.int .u64 (base : Int), .slice A1 n c1, .slice A2 n c2, .int .i64 (most : Int), .int .u64 (en : Int), .bool false] 38)).alloc (.cells #[.int .u64 0, .slice none 0 0, .slice none 0 0, .int .i64 0, .int .u64 0, .bool false] 38)).heap.size = w.heap.size + 2 := by simp
    generalize ((w.alloc (.cells #[.int .u64 (base : Int), .slice A1 n c1, .slice A2 n c2, .int .i64 (most : Int), .int .u64 (en : Int), .bool false] 38)).alloc (.cells #[.int .u64 0, .slice none 0 0, .slice none 0 0, .int .i64 0, .int .u64 0, .bool false] 38)) = w2 at KX KR b1 hz ⊢
    have HZ := Lib.hid hz
    clear hz
    have f0 : w2.cell? ⟨w.heap.size, 0, none⟩ = some (.int .u64 (base : Int)) := by rw [KX.out.cell]; rfl
    have f1 : w2.cell? ⟨w.heap.size, 1, none⟩ = some (.slice A1 n c1) := by rw [KX.out.cell]; rfl
    have f2 : w2.cell? ⟨w.heap.size, 2, none⟩ = some (.slice A2 n c2) := by rw [KX.out.cell]; rfl
    have f3 : w2.cell? ⟨w.heap.size, 3, none⟩ = some (.int .i64 (most : Int)) := by rw [KX.out.cell]; rfl
    have f4 : w2.cell? ⟨w.heap.size, 4, none⟩ = some (.int .u64 (en : Int)) := by rw [KX.out.cell]; rfl
    have f5 : w2.cell? ⟨w.heap.size, 5, none⟩ = some (.bool false) := by rw [KX.out.cell]; rfl
    go_wp2_with fail
    refine (RN.out w2 b1.out).mono ?_
    rintro e' w3 ⟨k, hk, rfl, hb3⟩
    replace KX := Sh.mk (KX.out.below hb3 KX.out.lt)
    replace KR := Sh.mk (KR.out.below hb3 KR.out.lt)
    have BB := Sh.mk (b1.out.trans (hb3.mono (by have := HZ.out; omega)))
    replace HR := Sh.mk (HR.out.below BB.out)
    obtain ⟨e0, he0⟩ : ∃ e0, e0 = base + k := ⟨_, rfl⟩
    rw [← he0]
    clear he0 hb3 f0 f1 f2 f3 f4 f5 RN b1
    have f0 : w3.cell? ⟨w.heap.size, 0, none⟩ = some (.int .u64 (base : Int)) := by rw [KX.out.cell]; rfl
    have f1 : w3.cell? ⟨w.heap.size, 1, none⟩ = some (.slice A1 n c1) := by rw [KX.out.cell]; rfl
    have f2 : w3.cell? ⟨w.heap.size, 2, none⟩ = some (.slice A2 n c2) := by rw [KX.out.cell]; rfl
    have f3 : w3.cell? ⟨w.heap.size, 3, none⟩ = some (.int .i64 (most : Int)) := by rw [KX.out.cell]; rfl
    have f4 : w3.cell? ⟨w.heap.size, 4, none⟩ = some (.int .u64 (en : Int)) := by rw [KX.out.cell]; rfl
    have f5 : w3.cell? ⟨w.heap.size, 5, none⟩ = some (.bool false) := by rw [KX.out.cell]; rfl
    by_cases hq : q < e0
    · have hq' : (q : Int) < (e0 : Int) := by omega
      go_wp2_with (refine stm_store (cs' := #[.int .u64 (base : Int), .slice A1 n c1, .slice A2 n c2, .int .i64 (most : Int), .int .u64 (en : Int), .bool false]) KR.out rfl _ _ rfl rfl rfl (by simp) (by kernel_rfl) (by simp [Value.oneCell']) (by simp [setL]) ?_)
      intro w4 hk hs
      have BE := Sh.mk (BB.out.trans (hs.1.mono (Nat.le_succ _)))
      have r0 : w4.cell? ⟨w.heap.size + 1, 0, none⟩ = some (.int .u64 (base : Int)) := by rw [hk.cell]; rfl
      have r1 : w4.cell? ⟨w.heap.size + 1, 1, none⟩ = some (.slice A1 n c1) := by rw [hk.cell]; rfl
      have r2 : w4.cell? ⟨w.heap.size + 1, 2, none⟩ = some (.slice A2 n c2) := by rw [hk.cell]; rfl
      have r3 : w4.cell? ⟨w.heap.size + 1, 3, none⟩ = some (.int .i64 (most : Int)) := by rw [hk.cell]; rfl
      have r4 : w4.cell? ⟨w.heap.size + 1, 4, none⟩ = some (.int .u64 (en : Int)) := by rw [hk.cell]; rfl
      have r5 : w4.cell? ⟨w.heap.size + 1, 5, none⟩ = some (.bool false) := by rw [hk.cell]; rfl
      clear hs
      go_wp2_with fail
      refine bodyPost_ret (v := .tuple #[.agg #[.int .u64 (base : Int), .slice A1 n c1, .slice A2 n c2, .int .i64 (most : Int), .int .u64 (en : Int), .bool false], .bool false]) (by simp [results, Try.results17, go_sem, r0, r1, r2, r3, r4, r5]) rfl ?_
      exact XP.mk' ⟨base, en, false, A1, A2, c1, c2, rfl, hb, HX.out.into BE.out⟩ BE.out
    · have hq' : ¬ (q : Int) < (e0 : Int) := by omega
      go_wp2_with fail
      go_loopw [6] (fun iv wr => ∃ i : Nat, i ≤ n ∧ iv = .int .i64 (i : Int) ∧ wr = w3) (fun iv _ => n - (intOf iv).toNat)
      case atStart => exact ⟨0, Nat.zero_le _, rfl, rfl⟩
      case round =>
        obtain ⟨i, hi, rfl, rfl⟩ := hrel
        by_cases hlt : i < n
        · have hlt' : (i : Int) < (n : Int) := by omega
          obtain ⟨b, off, v, rfl, hbb, hv⟩ := HR.out.bl hlt
          cases v
          · go_wp2_with fail
            go_roundw
            case rel => exact ⟨i + 1, by omega, by go_num, by first | rfl | trivial⟩
            case measure => simp [intOf]; omega
          · have hw1 : IntKind.u64.wrap (i : Int) = (i : Nat) := by rw [IntKind.wrap_u64]; omega
            obtain ⟨e1, he1⟩ : ∃ e1, e1 = base + i := ⟨_, rfl⟩
            have hw2 : IntKind.u64.wrap ((base : Int) + (i : Int)) = (e1 : Nat) := by rw [IntKind.wrap_u64]; omega
            clear he1
            by_cases hge : q ≤ e1
            · have hge' : (q : Int) ≤ (e1 : Int) := by omega
              go_wp2_with (refine stm_store (cs' := #[.int .u64 (base : Int), .slice (some ⟨b, off, none⟩) n c1, .slice A2 n c2, .int .i64 (most : Int), .int .u64 (en : Int), .bool false]) KR.out rfl _ _ rfl rfl rfl (by simp) (by kernel_rfl) (by simp [Value.oneCell']) (by simp [setL]) ?_)
              intro w4 hk hs
              have BE := Sh.mk (BB.out.trans (hs.1.mono (Nat.le_succ _)))
              have r0 : w4.cell? ⟨w.heap.size + 1, 0, none⟩ = some (.int .u64 (base : Int)) := by rw [hk.cell]; rfl
              have r1 : w4.cell? ⟨w.heap.size + 1, 1, none⟩ = some (.slice (some ⟨b, off, none⟩) n c1) := by rw [hk.cell]; rfl
              have r2 : w4.cell? ⟨w.heap.size + 1, 2, none⟩ = some (.slice A2 n c2) := by rw [hk.cell]; rfl
              have r3 : w4.cell? ⟨w.heap.size + 1, 3, none⟩ = some (.int .i64 (most : Int)) := by rw [hk.cell]; rfl
              have r4 : w4.cell? ⟨w.heap.size + 1, 4, none⟩ = some (.int .u64 (en : Int)) := by rw [hk.cell]; rfl
              have r5 : w4.cell? ⟨w.heap.size + 1, 5, none⟩ = some (.bool false) := by rw [hk.cell]; rfl
              clear hs
              go_wp2_with fail
              refine bodyPost_ret (v := .tuple #[.agg #[.int .u64 (base : Int), .slice (some ⟨b, off, none⟩) n c1, .slice A2 n c2, .int .i64 (most : Int), .int .u64 (en : Int), .bool false], .bool false]) (by simp [results, Try.results17, go_sem, r0, r1, r2, r3, r4, r5]) rfl ?_
              exact XP.mk' ⟨base, en, false, _, A2, c1, c2, rfl, hb, HX.out.into BE.out⟩ BE.out
            · have hge' : ¬ (q : Int) ≤ (e1 : Int) := by omega
              go_wp2_with fail
              go_roundw
              case rel => exact ⟨i + 1, by omega, by go_num, by first | rfl | trivial⟩
              case measure => simp [intOf]; omega
        · have hge : ¬ (i : Int) < (n : Int) := by omega
          have z4 := KX.out.frozen 4
          have z5 := KX.out.frozen 5
          go_upto_region 11 with fail
          have hs6 : Solo w.heap.size wr ((wr.setCell ⟨w.heap.size, 5, none⟩ (.bool true)).setCell ⟨w.heap.size, 4, none⟩ (.int .u64 (q : Int))) := (Solo.refl.setCell _ _).setCell _ _
          have hk6 := (KX.out.set 5 (.bool true)).set 4 (.int .u64 (q : Int))
          have KX6 : Sh (Blk ((wr.setCell ⟨w.heap.size, 5, none⟩ (.bool true)).setCell ⟨w.heap.size, 4, none⟩ (.int .u64 (q : Int))) w.heap.size 38 #[.int .u64 (base : Int), .slice A1 n c1, .slice A2 n c2, .int .i64 (most : Int), .int .u64 (q : Int), .bool true]) := ⟨by simpa using hk6⟩
          have KR6 := Sh.mk (hs6.blk KR.out (by omega))
          have BB6 := Sh.mk (BB.out.trans (hs6.1))
          clear hs6 hk6 KX KR BB f0 f1 f2 f3 f4 f5 z4 z5
          generalize (wr.setCell ⟨w.heap.size, 5, none⟩ (.bool true)).setCell ⟨w.heap.size, 4, none⟩ (.int .u64 (q : Int)) = w6 at KX6 KR6 BB6 ⊢
          have f0 : w6.cell? ⟨w.heap.size, 0, none⟩ = some (.int .u64 (base : Int)) := by rw [KX6.out.cell]; rfl
          have f1 : w6.cell? ⟨w.heap.size, 1, none⟩ = some (.slice A1 n c1) := by rw [KX6.out.cell]; rfl
          have f2 : w6.cell? ⟨w.heap.size, 2, none⟩ = some (.slice A2 n c2) := by rw [KX6.out.cell]; rfl
          have f3 : w6.cell? ⟨w.heap.size, 3, none⟩ = some (.int .i64 (most : Int)) := by rw [KX6.out.cell]; rfl
          have f4 : w6.cell? ⟨w.heap.size, 4, none⟩ = some (.int .u64 (q : Int)) := by rw [KX6.out.cell]; rfl
          have f5 : w6.cell? ⟨w.heap.size, 5, none⟩ = some (.bool true) := by rw [KX6.out.cell]; rfl
          go_wp2_with (refine stm_store (cs' := #[.int .u64 (base : Int), .slice A1 n c1, .slice A2 n c2, .int .i64 (most : Int), .int .u64 (q : Int), .bool true]) KR6.out rfl _ _ rfl rfl rfl (by simp) (by kernel_rfl) (by simp [Value.oneCell']) (by simp [setL]) ?_)
          intro w7 hk hs
          have BE := Sh.mk (BB6.out.trans (hs.1.mono (Nat.le_succ _)))
          have r0 : w7.cell? ⟨w.heap.size + 1, 0, none⟩ = some (.int .u64 (base : Int)) := by rw [hk.cell]; rfl
          have r1 : w7.cell? ⟨w.heap.size + 1, 1, none⟩ = some (.slice A1 n c1) := by rw [hk.cell]; rfl
          have r2 : w7.cell? ⟨w.heap.size + 1, 2, none⟩ = some (.slice A2 n c2) := by rw [hk.cell]; rfl
          have r3 : w7.cell? ⟨w.heap.size + 1, 3, none⟩ = some (.int .i64 (most : Int)) := by rw [hk.cell]; rfl
          have r4 : w7.cell? ⟨w.heap.size + 1, 4, none⟩ = some (.int .u64 (q : Int)) := by rw [hk.cell]; rfl
          have r5 : w7.cell? ⟨w.heap.size + 1, 5, none⟩ = some (.bool true) := by rw [hk.cell]; rfl
          clear hs
          go_wp2_with fail
          refine bodyPost_ret (v := .tuple #[.agg #[.int .u64 (base : Int), .slice A1 n c1, .slice A2 n c2, .int .i64 (most : Int), .int .u64 (q : Int), .bool true], .bool true]) (by simp [results, Try.results17, go_sem, r0, r1, r2, r3, r4, r5]) rfl ?_
          exact XP.mk' ⟨base, q, true, A1, A2, c1, c2, rfl, hb, HX.out.into BE.out⟩ BE.out

  · go_enter Try.func17, Try.ntmps17
    go_upto_region 1 with fail
    have KX : Hid (Blk (w.alloc (.cells #[.int .u64 (base : Int), .slice A1 n c1, .slice A2 n c2, .int .i64 (most : Int), .int .u64 (en : Int), .bool true] 38)) (w.heap.size) 38 #[.int .u64 (base : Int), .slice A1 n c1, .slice A2 n c2, .int .i64 (most : Int), .int .u64 (en : Int), .bool true]) := Lib.hid ((Blk.new w 38 #[.int .u64 (base : Int), .slice A1 n c1, .slice A2 n c2, .int .i64 (most : Int), .int .u64 (en : Int), .bool true]))
    replace KX : Hid (Blk ((w.alloc (.cells #[.int .u64 (base : Int), .slice A1 n c1, .slice A2 n c2, .int .i64 (most : Int), .int .u64 (en : Int), .bool true] 38)).alloc (.cells #[.int .u64 0, .slice none 0 0, .slice none 0 0, .int .i64 0, .int .u64 0, .bool false] 38)) (w.heap.size) 38 #[.int .u64 (base : Int), .slice A1 n c1, .slice A2 n c2, .int .i64 (most : Int), .int .u64 (en : Int), .bool true]) := Lib.hid (KX.out.alloc _)
    have KR : Hid (Blk ((w.alloc (.cells #[.int .u64 (base : Int), .slice A1 n c1, .slice A2 n c2, .int .i64 (most : Int), .int .u64 (en : Int), .bool true] 38)).alloc (.cells #[.int .u64 0, .slice none 0 0, .slice none 0 0, .int .i64 0, .int .u64 0, .bool false] 38)) (w.heap.size + 1) 38 #[.int .u64 0, .slice none 0 0, .slice none 0 0, .int .i64 0, .int .u64 0, .bool false]) := Lib.hid ((Blk.new (w.alloc (.cells #[.int .u64 (base : Int), .slice A1 n c1, .slice A2 n c2, .int .i64 (most : Int), .int .u64 (en : Int), .bool true] 38)) 38 #[.int .u64 0, .slice none 0 0, .slice none 0 0, .int .i64 0, .int .u64 0, .bool false]) |> fun h => by simpa using h)
    have b1 : Hid (Below w.heap.size w ((w.alloc (.cells #[.int .u64 (base : Int), .slice A1 n c1, .slice A2 n c2, .int .i64 (most : Int), .int .u64 (en : Int), .bool true] 38)).alloc (.cells #[.int .u64 0, .slice none 0 0, .slice none 0 0, .int .i64 0, .int .u64 0, .bool false] 38))) := Lib.hid (((Below.refl w.heap.size w).alloc (Nat.le_refl _) (.cells #[.int .u64 (base : Int), .slice A1 n c1, .slice A2 n c2, .int .i64 (most : Int), .int .u64 (en : Int), .bool true] 38)).alloc (by simp <;> omega) (.cells #[.int .u64 0, .slice none 0 0, .slice none 0 0, .int .i64 0, .int .u64 0, .bool false] 38))
    have hz : ((w.alloc (.cells #[.int .u64 (base : Int), .slice A1 n c1, .slice A2 n c2, .int .i64 (most : Int), .int .u64 (en : Int), .bool true] 38)).alloc (.cells #[.int .u64 0, .slice none 0 0, .slice none 0 0, .int .i64 0, .int .u64 0, .bool false] 38)).heap.size = w.heap.size + 2 := by simp
    generalize ((w.alloc (.cells #[.int .u64 (base : Int), .slice A1 n c1, .slice A2 n c2, .int .i64 (most : Int), .int .u64 (en : Int), .bool true] 38)).alloc (.cells #[.int .u64 0, .slice none 0 0, .slice none 0 0, .int .i64 0, .int .u64 0, .bool false] 38)) = w2 at KX KR b1 hz ⊢
    have HZ := Lib.hid hz
    clear hz
    have f0 : w2.cell? ⟨w.heap.size, 0, none⟩ = some (.int .u64 (base : Int)) := by rw [KX.out.cell]; rfl
    have f1 : w2.cell? ⟨w.heap.size, 1, none⟩ = some (.slice A1 n c1) := by rw [KX.out.cell]; rfl
    have f2 : w2.cell? ⟨w.heap.size, 2, none⟩ = some (.slice A2 n c2) := by rw [KX.out.cell]; rfl
    have f3 : w2.cell? ⟨w.heap.size, 3, none⟩ = some (.int .i64 (most : Int)) := by rw [KX.out.cell]; rfl
    have f4 : w2.cell? ⟨w.heap.size, 4, none⟩ = some (.int .u64 (en : Int)) := by rw [KX.out.cell]; rfl
    have f5 : w2.cell? ⟨w.heap.size, 5, none⟩ = some (.bool true) := by rw [KX.out.cell]; rfl
    obtain ⟨bq, hbq⟩ : ∃ b, ((en : Int) == (q : Int)) = b := ⟨_, rfl⟩
    clear RN
    go_wp2_with fail
    refine OX.wp_ord [(0, .read), (1, .pure), (2, .read), (3, .pure), (4, .pure), (5, .sole), (6, .pure)] ⟨fun k => k = w.heap.size + 1, []⟩ (by kernel_rfl) (by kernel_rfl) (fun QQ hQ wd hwd => ?_); (try simp only [List.map_cons, List.map_nil, List.getD_cons_zero, List.getD_cons_succ])
    have hD : Below w2.heap.size w2 wd := by rw [hwd.out]; exact (Below.refl _ _).drew
    replace KX := Sh.mk (KX.out.below hD KX.out.lt)
    replace KR := Sh.mk (KR.out.below hD KR.out.lt)
    have BB := Sh.mk (b1.out.trans (hD.mono (by have := HZ.out; omega)))
    clear hD hwd f0 f1 f2 f3 f4 f5 b1
    have f0 : wd.cell? ⟨w.heap.size, 0, none⟩ = some (.int .u64 (base : Int)) := by rw [KX.out.cell]; rfl
    have f1 : wd.cell? ⟨w.heap.size, 1, none⟩ = some (.slice A1 n c1) := by rw [KX.out.cell]; rfl
    have f2 : wd.cell? ⟨w.heap.size, 2, none⟩ = some (.slice A2 n c2) := by rw [KX.out.cell]; rfl
    have f3 : wd.cell? ⟨w.heap.size, 3, none⟩ = some (.int .i64 (most : Int)) := by rw [KX.out.cell]; rfl
    have f4 : wd.cell? ⟨w.heap.size, 4, none⟩ = some (.int .u64 (en : Int)) := by rw [KX.out.cell]; rfl
    have f5 : wd.cell? ⟨w.heap.size, 5, none⟩ = some (.bool true) := by rw [KX.out.cell]; rfl
    have HLD := Sh.mk (KX.out.loads 0 [.int .u64 (base : Int), .slice A1 n c1, .slice A2 n c2, .int .i64 (most : Int), .int .u64 (en : Int), .bool true] rfl)
    have hne : ¬ (w.heap.size = w.heap.size + 1) := by omega
    (refine OX.o_loads _ [.int .u64 (base : Int), .slice A1 n c1, .slice A2 n c2, .int .i64 (most : Int), .int .u64 (en : Int), .bool true] (by rfl) rfl rfl (by dsimp only; first | assumption | omega) (HLD.out) (Nat.succ_pos _) (by kernel_rfl) (by kernel_rfl) ?_; simp only [Act.put, List.setIfInBounds_toArray, List.set_cons_zero, List.set_cons_succ])
    (refine OX.o_pure (v := ?_) (by rfl) (fun w' => ?_) ?_; rotate_left; (focus (go_simp; (try with_reducible rfl))); (try simp only [Act.put, List.setIfInBounds_toArray, List.set_cons_zero, List.set_cons_succ]))
    (refine OX.o_load _ (by rfl) rfl rfl (by dsimp only; first | assumption | omega) (by assumption) (by kernel_rfl) ?_; simp only [Act.put, List.setIfInBounds_toArray, List.set_cons_zero, List.set_cons_succ])
    (refine OX.o_pure (v := ?_) (by rfl) (fun w' => ?_) ?_; rotate_left; (focus (go_simp; (try with_reducible rfl))); (try simp only [Act.put, List.setIfInBounds_toArray, List.set_cons_zero, List.set_cons_succ]))
    (refine OX.o_pure (v := ?_) (by rfl) (fun w' => ?_) ?_; rotate_left; (focus (go_simp; (try with_reducible rfl))); (try simp only [Act.put, List.setIfInBounds_toArray, List.set_cons_zero, List.set_cons_succ]))
    refine OX.o_sole (fun K hK => ?_)
    refine stm_store (cs' := #[.int .u64 (base : Int), .slice A1 n c1, .slice A2 n c2, .int .i64 (most : Int), .int .u64 (en : Int), .bool true]) KR.out rfl _ _ rfl rfl rfl (by simp) (by kernel_rfl) (by simp [Value.oneCell']) (by simp [setL]) ?_
    intro w4 hk hs
    refine wpList_nil ?_
    refine hK _ _ (fun _ => OX.ExtB.solo hs (by simp)) ?_; clear hK K
    (refine OX.o_pure (v := ?_) (by rfl) (fun w' => ?_) ?_; rotate_left; (focus (go_simp; (try with_reducible rfl))); (try simp only [Act.put, List.setIfInBounds_toArray, List.set_cons_zero, List.set_cons_succ]))
    refine OX.o_nil (hQ.out _ _ ?_); clear hQ QQ
    have BE := Sh.mk (BB.out.trans (hs.1.mono (Nat.le_succ _)))
    have r0 : w4.cell? ⟨w.heap.size + 1, 0, none⟩ = some (.int .u64 (base : Int)) := by rw [hk.cell]; rfl
    have r1 : w4.cell? ⟨w.heap.size + 1, 1, none⟩ = some (.slice A1 n c1) := by rw [hk.cell]; rfl
    have r2 : w4.cell? ⟨w.heap.size + 1, 2, none⟩ = some (.slice A2 n c2) := by rw [hk.cell]; rfl
    have r3 : w4.cell? ⟨w.heap.size + 1, 3, none⟩ = some (.int .i64 (most : Int)) := by rw [hk.cell]; rfl
    have r4 : w4.cell? ⟨w.heap.size + 1, 4, none⟩ = some (.int .u64 (en : Int)) := by rw [hk.cell]; rfl
    have r5 : w4.cell? ⟨w.heap.size + 1, 5, none⟩ = some (.bool true) := by rw [hk.cell]; rfl
    clear hs
    go_wp2_with fail
    refine bodyPost_ret (v := .tuple #[.agg #[.int .u64 (base : Int), .slice A1 n c1, .slice A2 n c2, .int .i64 (most : Int), .int .u64 (en : Int), .bool true], .bool bq]) (by simp [results, Try.results17, go_sem, r0, r1, r2, r3, r4, r5]) rfl ?_
    exact XP.mk' ⟨base, en, true, A1, A2, c1, c2, rfl, hb, HX.out.into BE.out⟩ BE.out

end Go.Proofs.Ytnngjbieoakanaa
