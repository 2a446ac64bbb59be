/- Layer 18: the document's inlet: Put. -/
import Derived.Test.YtnngjbieoakanaaG46InletTwice

namespace Go.Proofs.Ytnngjbieoakanaa
open Go.RowKit
set_option linter.unusedVariables false
set_option linter.unusedSimpArgs false
/-- A cell of an own row is written. -/
theorem own_put1 {w : World} {B n c g i : Nat} {e : TypeId} {xs : List Value} {v : Value} (h : w.ownsRow B e 1 (.slice (some ⟨g, 0, none⟩) n c) n xs) (hi : i < n) : (w.setCell ⟨g, i, none⟩ v).ownsRow B e 1 (.slice (some ⟨g, 0, none⟩) n c) n (xs.set i v) ∧ Solo g w (w.setCell ⟨g, i, none⟩ v) := by
  rcases own_open h with ⟨h1, _⟩ | ⟨g', c', L, h1, hB, hb, hnc, hcm, hl, hx⟩
  · cases h1
  · injection h1 with e1 e2 e3
    injection e1 with e1
    injection e1 with e1
    subst e1; subst e3
    have hb' := hb.set i v
    rw [List.setIfInBounds_toArray] at hb'
    refine ⟨own_shut hB hb' hnc hcm (by rw [List.length_set]; exact hl) ?_, Solo.refl.setCell _ _⟩
    rw [← hx, List.take_set]
theorem own_cells {w : World} {B n c g i : Nat} {e : TypeId} {xs : List Value} (h : w.ownsRow B e 1 (.slice (some ⟨g, 0, none⟩) n c) n xs) (hi : i < n) : (∃ v, w.cell? ⟨g, i, none⟩ = some v) ∧ w.frozen? ⟨g, i, none⟩ = false := by
  rcases own_open h with ⟨h1, _⟩ | ⟨g', c', L, h1, hB, hb, hnc, hcm, hl, hx⟩
  · cases h1
  · injection h1 with e1 e2 e3
    injection e1 with e1
    injection e1 with e1
    subst e1; subst e3
    refine ⟨⟨L[i]'(by omega), ?_⟩, hb.frozen i⟩
    rw [hb.cell]
    simp
theorem own_at {w : World} {B n : Nat} {A : Option Addr} {c : Nat} {e : TypeId} {xs : List Value} (h : w.ownsRow B e 1 (.slice A n c) n xs) (hn : 0 < n) : ∃ g, A = some ⟨g, 0, none⟩ ∧ B ≤ g ∧ g < w.heap.size := by
  rcases own_open h with ⟨h1, _⟩ | ⟨g', c', L, h1, hB, hb, hnc, hcm, hl, hx⟩
  · injection h1 with e1 e2 e3; omega
  · injection h1 with e1 e2 e3
    exact ⟨g', e1, hB, hb.lt⟩
theorem bls_set (l : List Bool) (i : Nat) (b : Bool) : (bls l).set i (.bool b) = bls (l.set i b) := by simp [bls, List.map_set]
theorem ns_set (l : List Nat) (i : Nat) (b : Nat) : (ns .u8 l).set i (.int .u8 (b : Int)) = ns .u8 (l.set i b) := by simp [ns, List.map_set]
set_option maxRecDepth 20000 in
set_option maxHeartbeats 4000000 in
theorem r18_put (base most en n : Nat) (kn : Bool) (A1 A2 : Option Addr) (c1 c2 B1 : Nat) (w : World) (hX : XR w B1 n A1 c1 A2 c2) (hn : n ≤ 200) (hb : base ≤ 100000) (hB1 : B1 ≤ w.heap.size) (from_ m c : Nat) (A : Option Addr) (bs : List Nat) (hr : Rd w w.heap.size 1 A m (ns .u8 bs)) (hm : m ≤ 300) (hf : from_ < 18446744073709551616) :
    Calls Try.prog 21 #[.agg #[.int .u64 (base : Int), .slice A1 n c1, .slice A2 n c2, .int .i64 (most : Int), .int .u64 (en : Int), .bool kn], .int .u64 (from_ : Int), .slice A m c] w (XP w B1 n most base) := by
  have RG := Sh.mk fun w' => r18_edge base most en n kn A1 A2 c1 c2 B1 w' hn hb
  have RN := Sh.mk fun w' (hb' : Below w.heap.size w w') => r18_next base most en n kn A1 A2 c1 c2 B1 w' (hX.into hb') hn hb
  have HX := Sh.mk hX
  have HB1 := Sh.mk hB1
  have HBR := Sh.mk hr
  have hwm : IntKind.u64.wrap (m : Int) = (m : Nat) := by rw [IntKind.wrap_u64]; omega
  clear hX hB1 hr
  go_enter Try.func21, Try.ntmps21
  go_upto_region 1 with fail
  have KX : Hid (Blk (w.alloc (.cells #[.int .u64 (base : Int), .slice A1 n c1, .slice A2 n c2, .int .i64 (most : Int), .int .u64 (en : Int), .bool kn] 38)) (w.heap.size) 38 #[.int .u64 (base : Int), .slice A1 n c1, .slice A2 n c2, .int .i64 (most : Int), .int .u64 (en : Int), .bool kn]) := Lib.hid ((Blk.new w 38 #[.int .u64 (base : Int), .slice A1 n c1, .slice A2 n c2, .int .i64 (most : Int), .int .u64 (en : Int), .bool kn]))
  replace KX : Hid (Blk ((w.alloc (.cells #[.int .u64 (base : Int), .slice A1 n c1, .slice A2 n c2, .int .i64 (most : Int), .int .u64 (en : Int), .bool kn] 38)).alloc (.cells #[.int .u64 0, .slice none 0 0, .slice none 0 0, .int .i64 0, .int .u64 0, .bool false] 38)) (w.heap.size) 38 #[.int .u64 (base : Int), .slice A1 n c1, .slice A2 n c2, .int .i64 (most : Int), .int .u64 (en : Int), .bool kn]) := Lib.hid (KX.out.alloc _)
  have KR : Hid (Blk ((w.alloc (.cells #[.int .u64 (base : Int), .slice A1 n c1, .slice A2 n c2, .int .i64 (most : Int), .int .u64 (en : Int), .bool kn] 38)).alloc (.cells #[.int .u64 0, .slice none 0 0, .slice none 0 0, .int .i64 0, .int .u64 0, .bool false] 38)) (w.heap.size + 1) 38 #[.int .u64 0, .slice none 0 0, .slice none 0 0, .int .i64 0, .int .u64 0, .bool false]) := Lib.hid ((Blk.new (w.alloc (.cells #[.int .u64 (base : Int), .slice A1 n c1, .slice A2 n c2, .int .i64 (most : Int), .int .u64 (en : Int), .bool kn] 38)) 38 #[.int .u64 0, .slice none 0 0, .slice none 0 0, .int .i64 0, .int .u64 0, .bool false]) |> fun h => by simpa using h)
  have b1 : Hid (Below w.heap.size w ((w.alloc (.cells #[.int .u64 (base : Int), .slice A1 n c1, .slice A2 n c2, .int .i64 (most : Int), .int .u64 (en : Int), .bool kn] 38)).alloc (.cells #[.int .u64 0, .slice none 0 0, .slice none 0 0, .int .i64 0, .int .u64 0, .bool false] 38))) := Lib.hid (((Below.refl w.heap.size w).alloc (Nat.le_refl _) (.cells #[.int .u64 (base : Int), .slice A1 n c1, .slice A2 n c2, .int .i64 (most : Int), .int .u64 (en : Int), .bool kn] 38)).alloc (by simp <;> omega) (.cells #[.int .u64 0, .slice none 0 0, .slice none 0 0, .int .i64 0, .int .u64 0, .bool false] 38))
  have hz : ((w.alloc (.cells #[.int .u64 (base : Int), .slice A1 n c1, .slice A2 n c2, .int .i64 (most : Int), .int .u64 (en : Int), .bool kn] 38)).alloc (.cells #[.int .u64 0, .slice none 0 0, .slice none 0 0, .int .i64 0, .int .u64 0, .bool false] 38)).heap.size = w.heap.size + 2 := by simp
  generalize ((w.alloc (.cells #[.int .u64 (base : Int), .slice A1 n c1, .slice A2 n c2, .int .i64 (most : Int), .int .u64 (en : Int), .bool kn] 38)).alloc (.cells #[.int .u64 0, .slice none 0 0, .slice none 0 0, .int .i64 0, .int .u64 0, .bool false] 38)) = w2 at KX KR b1 hz ⊢
  have HZ := Lib.hid hz
  clear hz
  have f0 : w2.cell? ⟨w.heap.size, 0, none⟩ = some (.int .u64 (base : Int)) := by rw [KX.out.cell]; rfl
  have f1 : w2.cell? ⟨w.heap.size, 1, none⟩ = some (.slice A1 n c1) := by rw [KX.out.cell]; rfl
  have f2 : w2.cell? ⟨w.heap.size, 2, none⟩ = some (.slice A2 n c2) := by rw [KX.out.cell]; rfl
  have f3 : w2.cell? ⟨w.heap.size, 3, none⟩ = some (.int .i64 (most : Int)) := by rw [KX.out.cell]; rfl
  have f4 : w2.cell? ⟨w.heap.size, 4, none⟩ = some (.int .u64 (en : Int)) := by rw [KX.out.cell]; rfl
  have f5 : w2.cell? ⟨w.heap.size, 5, none⟩ = some (.bool kn) := by rw [KX.out.cell]; rfl
  by_cases hov : 18446744073709551616 ≤ from_ + m
  · obtain ⟨fm, hfm⟩ : ∃ x, x = from_ + m - 18446744073709551616 := ⟨_, rfl⟩
    have hw1 : IntKind.u64.wrap ((from_ : Int) + (m : Int)) = (fm : Nat) := by rw [IntKind.wrap_u64]; omega
    have hlt : (fm : Int) < (from_ : Int) := by omega
    clear hfm hov
    go_wp2_with (refine stm_store (cs' := #[.int .u64 (base : Int), .slice A1 n c1, .slice A2 n c2, .int .i64 (most : Int), .int .u64 (en : Int), .bool kn]) KR.out rfl _ _ rfl rfl rfl (by simp) (by kernel_rfl) (by simp [Value.oneCell']) (by simp [setL]) ?_)
    intro w4 hk hs
    have BE := Sh.mk (b1.out.trans (hs.1.mono (Nat.le_succ _)))
    have r0 : w4.cell? ⟨w.heap.size + 1, 0, none⟩ = some (.int .u64 (base : Int)) := by rw [hk.cell]; rfl
    have r1 : w4.cell? ⟨w.heap.size + 1, 1, none⟩ = some (.slice A1 n c1) := by rw [hk.cell]; rfl
    have r2 : w4.cell? ⟨w.heap.size + 1, 2, none⟩ = some (.slice A2 n c2) := by rw [hk.cell]; rfl
    have r3 : w4.cell? ⟨w.heap.size + 1, 3, none⟩ = some (.int .i64 (most : Int)) := by rw [hk.cell]; rfl
    have r4 : w4.cell? ⟨w.heap.size + 1, 4, none⟩ = some (.int .u64 (en : Int)) := by rw [hk.cell]; rfl
    have r5 : w4.cell? ⟨w.heap.size + 1, 5, none⟩ = some (.bool kn) := by rw [hk.cell]; rfl
    clear hs
    go_wp2_with fail
    refine bodyPost_ret (v := .tuple #[.agg #[.int .u64 (base : Int), .slice A1 n c1, .slice A2 n c2, .int .i64 (most : Int), .int .u64 (en : Int), .bool kn], .bool false]) (by simp [results, Try.results21, go_sem, r0, r1, r2, r3, r4, r5]) rfl ?_
    exact XP.mk' ⟨base, en, kn, A1, A2, c1, c2, rfl, Nat.le_refl _, HX.out.into BE.out⟩ BE.out
  · obtain ⟨fm, hfm⟩ : ∃ x, x = from_ + m := ⟨_, rfl⟩
    have hw1 : IntKind.u64.wrap ((from_ : Int) + (m : Int)) = (fm : Nat) := by rw [IntKind.wrap_u64]; omega
    have hlt : ¬ (fm : Int) < (from_ : Int) := by omega
    have HFM := Sh.mk (show fm = from_ + m ∧ fm < 18446744073709551616 by omega)
    clear hfm hov hf
    go_wp2_with fail
    refine (RG.out w2).mono ?_
    rintro e' w3 ⟨rfl, hb3⟩
    have BB := Sh.mk (show Below w.heap.size w w2 ∧ w.heap.size + 2 ≤ w2.heap.size from ⟨b1.out, Nat.le_of_eq HZ.out.symm⟩)
    replace KX := Sh.mk (KX.out.below hb3 KX.out.lt)
    replace KR := Sh.mk (KR.out.below hb3 KR.out.lt)
    replace BB := Sh.mk (show Below w.heap.size w w3 ∧ w.heap.size + 2 ≤ w3.heap.size from ⟨BB.out.1.trans (hb3.mono BB.out.1.size), Nat.le_trans BB.out.2 hb3.size⟩)
    obtain ⟨ed, hed⟩ : ∃ x, x = base + n := ⟨_, rfl⟩
    rw [← hed]
    have HED := Sh.mk hed
    clear hb3 f0 f1 f2 f3 f4 f5 b1 HZ hw1 hlt hed
    have f0 : w3.cell? ⟨w.heap.size, 0, none⟩ = some (.int .u64 (base : Int)) := by rw [KX.out.cell]; rfl
    have f1 : w3.cell? ⟨w.heap.size, 1, none⟩ = some (.slice A1 n c1) := by rw [KX.out.cell]; rfl
    have f2 : w3.cell? ⟨w.heap.size, 2, none⟩ = some (.slice A2 n c2) := by rw [KX.out.cell]; rfl
    have f3 : w3.cell? ⟨w.heap.size, 3, none⟩ = some (.int .i64 (most : Int)) := by rw [KX.out.cell]; rfl
    have f4 : w3.cell? ⟨w.heap.size, 4, none⟩ = some (.int .u64 (en : Int)) := by rw [KX.out.cell]; rfl
    have f5 : w3.cell? ⟨w.heap.size, 5, none⟩ = some (.bool kn) := by rw [KX.out.cell]; rfl
    go_upto_region 4 with fail
    go_cut [37] from 20 (fun tv wc => ∃ b : Bool, tv = .bool b ∧ (b = true → en < ed) ∧ wc = w3)
    case first =>
      cases kn
      · go_wp2_with fail
        go_meet
        case rel => exact ⟨false, rfl, by simp, rfl⟩
      · by_cases he : en < ed
        · have he' : (en : Int) < (ed : Int) := by omega
          go_wp2_with fail
          go_meet
          case rel => exact ⟨true, rfl, fun _ => he, rfl⟩
        · have he' : ¬ (en : Int) < (ed : Int) := by omega
          go_wp2_with fail
          go_meet
          case rel => exact ⟨false, rfl, by simp, rfl⟩
    case rest =>
      obtain ⟨b, rfl, hbe, hwc⟩ := hcut
      have hwc2 := hwc.symm
      subst hwc2
      go_upto_if 37 with fail
      go_cut [8] from 20 (fun tv wc => ∃ tp : Nat, tv = .int .u64 (tp : Nat) ∧ tp ≤ ed ∧ wc = w3)
      case first =>
        cases b
        · go_wp2_with fail
          go_meet
          case rel => exact ⟨ed, rfl, Nat.le_refl _, rfl⟩
        · go_wp2_with fail
          go_meet
          case rel => exact ⟨en, rfl, Nat.le_of_lt (by first | exact hbe rfl | exact hbe trivial), rfl⟩
      case rest =>
        clear hbe
        obtain ⟨tp, rfl, htp, hwc⟩ := hcut
        have hwc2 := hwc.symm
        subst hwc2
        have HTP := Sh.mk htp
        go_wp2_with fail
        refine (RN.out w3 BB.out.1).mono ?_
        rintro e' w4 ⟨k, hk, rfl, hb4⟩
        replace KX := Sh.mk (KX.out.below hb4 KX.out.lt)
        replace KR := Sh.mk (KR.out.below hb4 KR.out.lt)
        replace BB := Sh.mk (show Below w.heap.size w w4 ∧ w.heap.size + 2 ≤ w4.heap.size from ⟨BB.out.1.trans (hb4.mono BB.out.1.size), Nat.le_trans BB.out.2 hb4.size⟩)
        obtain ⟨nx, hnx⟩ : ∃ x, x = base + k := ⟨_, rfl⟩
        rw [← hnx]
        have HNX := Sh.mk (show base ≤ nx ∧ nx ≤ ed by have := HED.out; omega)
        clear hb4 f0 f1 f2 f3 f4 f5 hnx hk htp b
        obtain ⟨hl, hhr, hhc, hhm⟩ := HX.out.rdH
        obtain ⟨yl, hyr, hyc, hyl⟩ := HX.out.rdB
        have HR1 := Sh.mk ((hhr.below BB.out.1).mono BB.out.1.size)
        have HLY := Sh.mk hyl
        clear hhr hhc hhm hyr hyc hyl
        go_upto_region 8 with fail
        have HR2 := Sh.mk HX.out.rdB
        obtain ⟨bb, hb0⟩ : ∃ b, b = w4.heap.size := ⟨_, rfl⟩
        have HBB3 := Sh.mk (show w.heap.size ≤ bb by rw [hb0]; exact BB.out.1.size)
        have hlit := Sh.mk (own_lit0 w4 4 (B := bb) (Nat.le_of_eq hb0))
        have hba := (Below.refl w4.heap.size w4).alloc (Nat.le_refl _) (.cells #[] 4)
        have hrd2 := Sh.mk (HR1.out.alloc (Nat.le_refl _) (.cells #[] 4))
        have hb0s : bb ≤ (w4.alloc (.cells #[] 4)).heap.size := by rw [hb0]; exact hba.size
        have BA := Sh.mk (show Below bb w4 (w4.alloc (.cells #[] 4)) by rw [hb0]; exact hba)
        have HEQ0 := Sh.mk hb0
        clear hba hb0
        have fa : (w4.alloc (.cells #[] 4)).cell? ⟨w.heap.size, 1, none⟩ = some (.slice A1 n c1) := by rw [(KX.out.alloc _).cell]; rfl
        have hrm : (0 + n) * 1 ≤ room := room_ge (by omega)
        go_wp2_with (at_builtin; go_must (refine app blEl rfl _ _ rfl rfl hlit.out rfl hrd2.out (bls_one _) hrm hb0s ?_))
        intro v5 w5 ho5 hg5 hb5
        have ho6 : w5.ownsRow bb 4 1 v5 n (bls hl) := by simpa using ho5
        obtain ⟨A3, c3, rfl, _, _, _⟩ := own_form ho6
        have O3 := Sh.mk (own_mono ho6 HBB3.out)
        have B6 := Sh.mk (BA.out.trans hb5)
        rw [HEQ0.out] at B6
        replace KX := Sh.mk (KX.out.below B6.out KX.out.lt)
        replace KR := Sh.mk (KR.out.below B6.out KR.out.lt)
        replace BB := Sh.mk (show Below w.heap.size w w5 ∧ w.heap.size + 2 ≤ w5.heap.size from ⟨BB.out.1.trans (B6.out.mono BB.out.1.size), Nat.le_trans BB.out.2 B6.out.size⟩)
        clear ho5 ho6 hg5 hb5 hlit hrd2 BA hb0s fa hrm HEQ0 B6 HBB3
        have g0 : w5.cell? ⟨w.heap.size, 0, none⟩ = some (.int .u64 (base : Int)) := by rw [KX.out.cell]; rfl
        have g1 : w5.cell? ⟨w.heap.size, 1, none⟩ = some (.slice A1 n c1) := by rw [KX.out.cell]; rfl
        have g2 : w5.cell? ⟨w.heap.size, 2, none⟩ = some (.slice A2 n c2) := by rw [KX.out.cell]; rfl
        have g3 : w5.cell? ⟨w.heap.size, 3, none⟩ = some (.int .i64 (most : Int)) := by rw [KX.out.cell]; rfl
        have g4 : w5.cell? ⟨w.heap.size, 4, none⟩ = some (.int .u64 (en : Int)) := by rw [KX.out.cell]; rfl
        have g5 : w5.cell? ⟨w.heap.size, 5, none⟩ = some (.bool kn) := by rw [KX.out.cell]; rfl
        have zf := KX.out.frozen 1
        go_upto_region 9 with fail
        have hsS : Solo (w.heap.size) w5 (w5.setCell ⟨w.heap.size, 1, none⟩ (.slice A3 n c3)) := Solo.refl.setCell _ _
        have hkS := KX.out.set 1 (.slice A3 n c3)
        have KXS : Sh (Blk (w5.setCell ⟨w.heap.size, 1, none⟩ (.slice A3 n c3)) (w.heap.size) 38 #[.int .u64 (base : Int), .slice A3 n c3, .slice A2 n c2, .int .i64 (most : Int), .int .u64 (en : Int), .bool kn]) := ⟨by simpa using hkS⟩
        have KRS := Sh.mk (hsS.blk KR.out (by omega))
        have BBS := Sh.mk (show Below w.heap.size w (w5.setCell ⟨w.heap.size, 1, none⟩ (.slice A3 n c3)) ∧ w.heap.size + 2 ≤ (w5.setCell ⟨w.heap.size, 1, none⟩ (.slice A3 n c3)).heap.size from ⟨BB.out.1.trans hsS.1, by rw [hsS.2.1]; exact BB.out.2⟩)
        have O3S := Sh.mk (own_kept O3.out fun k ho => hsS.2.2 k (by rintro rfl; exact own_nt O3.out KX.out (by decide) ho))
        clear hsS hkS KX KR BB O3
        clear g0 g1 g2 g3 g4 g5 zf HR1 HR2
        generalize w5.setCell ⟨w.heap.size, 1, none⟩ (.slice A3 n c3) = w6 at *
        have KX := KXS
        have KR := KRS
        have BB := BBS
        have O3 := O3S
        clear KXS KRS BBS O3S
        obtain ⟨yl, hyr, hyc, hyl⟩ := HX.out.rdB
        have HR2 := Sh.mk ((hyr.below BB.out.1).mono BB.out.1.size)
        have HLY := Sh.mk hyl
        clear hyr hyc hyl
        obtain ⟨bb, hb0⟩ : ∃ b, b = w6.heap.size := ⟨_, rfl⟩
        have HBB4 := Sh.mk (show w.heap.size ≤ bb by rw [hb0]; exact BB.out.1.size)
        have hlit := Sh.mk (own_lit0 w6 5 (B := bb) (Nat.le_of_eq hb0))
        have hba := (Below.refl w6.heap.size w6).alloc (Nat.le_refl _) (.cells #[] 5)
        have hrd2 := Sh.mk (HR2.out.alloc (Nat.le_refl _) (.cells #[] 5))
        have hb0s : bb ≤ (w6.alloc (.cells #[] 5)).heap.size := by rw [hb0]; exact hba.size
        have BA := Sh.mk (show Below bb w6 (w6.alloc (.cells #[] 5)) by rw [hb0]; exact hba)
        have HEQ0 := Sh.mk hb0
        clear hba hb0
        have fa : (w6.alloc (.cells #[] 5)).cell? ⟨w.heap.size, 2, none⟩ = some (.slice A2 n c2) := by rw [(KX.out.alloc _).cell]; rfl
        have hrm : (0 + n) * 1 ≤ room := room_ge (by omega)
        go_wp2_with (at_builtin; go_must (refine app byEl rfl _ _ rfl rfl hlit.out rfl hrd2.out (ns_one _ _) hrm hb0s ?_))
        intro v5 w7 ho5 hg5 hb5
        have ho6 : w7.ownsRow bb 5 1 v5 n (ns .u8 yl) := by simpa using ho5
        obtain ⟨A4, c4, rfl, _, _, _⟩ := own_form ho6
        have O4 := Sh.mk (own_mono ho6 HBB4.out)
        have B6 := Sh.mk (BA.out.trans hb5)
        rw [HEQ0.out] at B6
        replace KX := Sh.mk (KX.out.below B6.out KX.out.lt)
        replace KR := Sh.mk (KR.out.below B6.out KR.out.lt)
        replace O3 := Sh.mk (own_below O3.out B6.out fun g hg => (O3.out.lt g hg).2)
        replace BB := Sh.mk (show Below w.heap.size w w7 ∧ w.heap.size + 2 ≤ w7.heap.size from ⟨BB.out.1.trans (B6.out.mono BB.out.1.size), Nat.le_trans BB.out.2 B6.out.size⟩)
        clear ho5 ho6 hg5 hb5 hlit hrd2 BA hb0s fa hrm HEQ0 B6 HBB4
        have g0 : w7.cell? ⟨w.heap.size, 0, none⟩ = some (.int .u64 (base : Int)) := by rw [KX.out.cell]; rfl
        have g1 : w7.cell? ⟨w.heap.size, 1, none⟩ = some (.slice A3 n c3) := by rw [KX.out.cell]; rfl
        have g2 : w7.cell? ⟨w.heap.size, 2, none⟩ = some (.slice A2 n c2) := by rw [KX.out.cell]; rfl
        have g3 : w7.cell? ⟨w.heap.size, 3, none⟩ = some (.int .i64 (most : Int)) := by rw [KX.out.cell]; rfl
        have g4 : w7.cell? ⟨w.heap.size, 4, none⟩ = some (.int .u64 (en : Int)) := by rw [KX.out.cell]; rfl
        have g5 : w7.cell? ⟨w.heap.size, 5, none⟩ = some (.bool kn) := by rw [KX.out.cell]; rfl
        have zf := KX.out.frozen 2
        go_upto_region 10 with fail
        have hsS : Solo (w.heap.size) w7 (w7.setCell ⟨w.heap.size, 2, none⟩ (.slice A4 n c4)) := Solo.refl.setCell _ _
        have hkS := KX.out.set 2 (.slice A4 n c4)
        have KXS : Sh (Blk (w7.setCell ⟨w.heap.size, 2, none⟩ (.slice A4 n c4)) (w.heap.size) 38 #[.int .u64 (base : Int), .slice A3 n c3, .slice A4 n c4, .int .i64 (most : Int), .int .u64 (en : Int), .bool kn]) := ⟨by simpa using hkS⟩
        have KRS := Sh.mk (hsS.blk KR.out (by omega))
        have BBS := Sh.mk (show Below w.heap.size w (w7.setCell ⟨w.heap.size, 2, none⟩ (.slice A4 n c4)) ∧ w.heap.size + 2 ≤ (w7.setCell ⟨w.heap.size, 2, none⟩ (.slice A4 n c4)).heap.size from ⟨BB.out.1.trans hsS.1, by rw [hsS.2.1]; exact BB.out.2⟩)
        have O3S := Sh.mk (own_kept O3.out fun k ho => hsS.2.2 k (by rintro rfl; exact own_nt O3.out KX.out (by decide) ho))
        have O4S := Sh.mk (own_kept O4.out fun k ho => hsS.2.2 k (by rintro rfl; exact own_nt O4.out KX.out (by decide) ho))
        clear hsS hkS KX KR BB O3 O4
        clear g0 g1 g2 g3 g4 g5 zf HR2
        generalize w7.setCell ⟨w.heap.size, 2, none⟩ (.slice A4 n c4) = w8 at *
        have KX := KXS
        have KR := KRS
        have BB := BBS
        have O3 := O3S
        have O4 := O4S
        clear KXS KRS BBS O3S O4S
        have g0 : w8.cell? ⟨w.heap.size, 0, none⟩ = some (.int .u64 (base : Int)) := by rw [KX.out.cell]; rfl
        have g1 : w8.cell? ⟨w.heap.size, 1, none⟩ = some (.slice A3 n c3) := by rw [KX.out.cell]; rfl
        have g2 : w8.cell? ⟨w.heap.size, 2, none⟩ = some (.slice A4 n c4) := by rw [KX.out.cell]; rfl
        have g3 : w8.cell? ⟨w.heap.size, 3, none⟩ = some (.int .i64 (most : Int)) := by rw [KX.out.cell]; rfl
        have g4 : w8.cell? ⟨w.heap.size, 4, none⟩ = some (.int .u64 (en : Int)) := by rw [KX.out.cell]; rfl
        have g5 : w8.cell? ⟨w.heap.size, 5, none⟩ = some (.bool kn) := by rw [KX.out.cell]; rfl
        go_upto_region 11 with fail
        obtain ⟨A9, c9, hv9, _, _, hr3⟩ := own_form O3.out
        injection hv9 with h91 h92 h93
        subst h91; subst h93
        have HLD5 := Sh.mk (fun g (h : (Value.slice A3 n c3).ownBlock = some g) => (show g < w8.heap.size from (O3.out.lt g h).2))
        obtain ⟨bb, hb0⟩ : ∃ b, b = w8.heap.size := ⟨_, rfl⟩
        have HBB5 := Sh.mk (show w.heap.size ≤ bb by rw [hb0]; exact BB.out.1.size)
        have hlit := Sh.mk (own_lit0 w8 4 (B := bb) (Nat.le_of_eq hb0))
        have hba := (Below.refl w8.heap.size w8).alloc (Nat.le_refl _) (.cells #[] 4)
        have hrd2 := Sh.mk (hr3.alloc (Nat.le_refl _) (.cells #[] 4))
        have hb0s : bb ≤ (w8.alloc (.cells #[] 4)).heap.size := by rw [hb0]; exact hba.size
        have BA := Sh.mk (show Below bb w8 (w8.alloc (.cells #[] 4)) by rw [hb0]; exact hba)
        have HEQ0 := Sh.mk hb0
        clear hba hb0
        have fa : (w8.alloc (.cells #[] 4)).cell? ⟨w.heap.size, 1, none⟩ = some (.slice A3 n c3) := by rw [(KX.out.alloc _).cell]; rfl
        have hrm : (0 + n) * 1 ≤ room := room_ge (by omega)
        go_wp2_with (at_builtin; go_must (refine app blEl rfl _ _ rfl rfl hlit.out rfl hrd2.out (bls_one _) hrm hb0s ?_))
        intro v5 w9 ho5 hg5 hb5
        have ho6 : w9.ownsRow bb 4 1 v5 n (bls hl) := by simpa using ho5
        obtain ⟨A5, c5, rfl, _, _, _⟩ := own_form ho6
        have O5 := Sh.mk (own_mono ho6 HBB5.out)
        have B6 := Sh.mk (BA.out.trans hb5)
        rw [HEQ0.out] at B6
        replace KX := Sh.mk (KX.out.below B6.out KX.out.lt)
        replace KR := Sh.mk (KR.out.below B6.out KR.out.lt)
        replace O3 := Sh.mk (own_below O3.out B6.out fun g hg => (O3.out.lt g hg).2)
        replace O4 := Sh.mk (own_below O4.out B6.out fun g hg => (O4.out.lt g hg).2)
        replace BB := Sh.mk (show Below w.heap.size w w9 ∧ w.heap.size + 2 ≤ w9.heap.size from ⟨BB.out.1.trans (B6.out.mono BB.out.1.size), Nat.le_trans BB.out.2 B6.out.size⟩)
        have HD5 := Sh.mk (fun g (h : (Value.slice A3 n c3).ownBlock = some g) (h' : (Value.slice A5 n c5).ownBlock = some g) => (show False by have h1 := HLD5.out g h; have h2 := (ho6.lt g h').1; rw [HEQ0.out] at h2; omega))
        clear hr3 ho5 ho6 hg5 hb5 hlit hrd2 BA hb0s fa hrm HEQ0 B6 HBB5 HLD5
        clear g0 g1 g2 g3 g4 g5
        have g0 : w9.cell? ⟨w.heap.size, 0, none⟩ = some (.int .u64 (base : Int)) := by rw [KX.out.cell]; rfl
        have g1 : w9.cell? ⟨w.heap.size, 1, none⟩ = some (.slice A3 n c3) := by rw [KX.out.cell]; rfl
        have g2 : w9.cell? ⟨w.heap.size, 2, none⟩ = some (.slice A4 n c4) := by rw [KX.out.cell]; rfl
        have g3 : w9.cell? ⟨w.heap.size, 3, none⟩ = some (.int .i64 (most : Int)) := by rw [KX.out.cell]; rfl
        have g4 : w9.cell? ⟨w.heap.size, 4, none⟩ = some (.int .u64 (en : Int)) := by rw [KX.out.cell]; rfl
        have g5 : w9.cell? ⟨w.heap.size, 5, none⟩ = some (.bool kn) := by rw [KX.out.cell]; rfl
        go_upto_region 12 with fail
        obtain ⟨A9, c9, hv9, _, _, hr4⟩ := own_form O4.out
        injection hv9 with h91 h92 h93
        subst h91; subst h93
        have HLD6 := Sh.mk (fun g (h : (Value.slice A4 n c4).ownBlock = some g) => (show g < w9.heap.size from (O4.out.lt g h).2))
        obtain ⟨bb, hb0⟩ : ∃ b, b = w9.heap.size := ⟨_, rfl⟩
        have HBB6 := Sh.mk (show w.heap.size ≤ bb by rw [hb0]; exact BB.out.1.size)
        have hlit := Sh.mk (own_lit0 w9 5 (B := bb) (Nat.le_of_eq hb0))
        have hba := (Below.refl w9.heap.size w9).alloc (Nat.le_refl _) (.cells #[] 5)
        have hrd2 := Sh.mk (hr4.alloc (Nat.le_refl _) (.cells #[] 5))
        have hb0s : bb ≤ (w9.alloc (.cells #[] 5)).heap.size := by rw [hb0]; exact hba.size
        have BA := Sh.mk (show Below bb w9 (w9.alloc (.cells #[] 5)) by rw [hb0]; exact hba)
        have HEQ0 := Sh.mk hb0
        clear hba hb0
        have fa : (w9.alloc (.cells #[] 5)).cell? ⟨w.heap.size, 2, none⟩ = some (.slice A4 n c4) := by rw [(KX.out.alloc _).cell]; rfl
        have hrm : (0 + n) * 1 ≤ room := room_ge (by omega)
        go_wp2_with (at_builtin; go_must (refine app byEl rfl _ _ rfl rfl hlit.out rfl hrd2.out (ns_one _ _) hrm hb0s ?_))
        intro v5 w10 ho5 hg5 hb5
        have ho6 : w10.ownsRow bb 5 1 v5 n (ns .u8 yl) := by simpa using ho5
        obtain ⟨A6, c6, rfl, _, _, _⟩ := own_form ho6
        have O6 := Sh.mk (own_mono ho6 HBB6.out)
        have B6 := Sh.mk (BA.out.trans hb5)
        rw [HEQ0.out] at B6
        replace KX := Sh.mk (KX.out.below B6.out KX.out.lt)
        replace KR := Sh.mk (KR.out.below B6.out KR.out.lt)
        replace O3 := Sh.mk (own_below O3.out B6.out fun g hg => (O3.out.lt g hg).2)
        replace O4 := Sh.mk (own_below O4.out B6.out fun g hg => (O4.out.lt g hg).2)
        replace O5 := Sh.mk (own_below O5.out B6.out fun g hg => (O5.out.lt g hg).2)
        replace BB := Sh.mk (show Below w.heap.size w w10 ∧ w.heap.size + 2 ≤ w10.heap.size from ⟨BB.out.1.trans (B6.out.mono BB.out.1.size), Nat.le_trans BB.out.2 B6.out.size⟩)
        have HD6 := Sh.mk (fun g (h : (Value.slice A4 n c4).ownBlock = some g) (h' : (Value.slice A6 n c6).ownBlock = some g) => (show False by have h1 := HLD6.out g h; have h2 := (ho6.lt g h').1; rw [HEQ0.out] at h2; omega))
        clear hr4 ho5 ho6 hg5 hb5 hlit hrd2 BA hb0s fa hrm HEQ0 B6 HBB6 HLD6
        clear g0 g1 g2 g3 g4 g5
        go_upto_region 14 with fail
        have HY3 := Sh.mk (show yl.length = n from HLY.out)
        have BB10 := BB
        have KX10 := KX
        have KR10 := KR
        have O510 := Sh.mk (show ∃ hn : List Bool, w10.ownsRow w.heap.size 4 1 (.slice A5 n c5) n (bls hn) from ⟨hl, O5.out⟩)
        have O610 := Sh.mk (show ∃ yn : List Nat, w10.ownsRow w.heap.size 5 1 (.slice A6 n c6) n (ns .u8 yn) ∧ yn.length = n from ⟨yl, O6.out, HLY.out⟩)
        go_wp2_with fail
        go_loopw [10, 14, 15, 16] (fun wv lv av iv wr => ∃ (i lst : Nat) (wh any : Bool), wv = .bool wh ∧ lv = .int .u64 (lst : Nat) ∧ av = .bool any ∧ iv = .int .i64 (i : Nat) ∧ i ≤ m ∧ Sh (∃ hn : List Bool, wr.ownsRow w.heap.size 4 1 (.slice A5 n c5) n (bls hn)) ∧ Sh (∃ yn : List Nat, wr.ownsRow w.heap.size 5 1 (.slice A6 n c6) n (ns .u8 yn) ∧ yn.length = n) ∧ Sh (wr.ownsRow w.heap.size 4 1 (.slice A3 n c3) n (bls hl)) ∧ Sh (wr.ownsRow w.heap.size 5 1 (.slice A4 n c4) n (ns .u8 yl)) ∧ Sh (Blk wr (w.heap.size) 38 #[.int .u64 (base : Int), .slice A3 n c3, .slice A4 n c4, .int .i64 (most : Int), .int .u64 (en : Int), .bool kn]) ∧ Sh (Blk wr (w.heap.size + 1) 38 #[.int .u64 0, .slice none 0 0, .slice none 0 0, .int .i64 0, .int .u64 0, .bool false]) ∧ Sh (Below w.heap.size w wr ∧ w.heap.size + 2 ≤ wr.heap.size)) (fun _ _ _ iv _ => m - (intOf iv).toNat)
        case atStart => exact ⟨0, 0, true, false, rfl, rfl, rfl, rfl, Nat.zero_le _, O510, O610, O3, O4, KX10, KR10, BB10⟩
        case round =>
          clear O510 O610 KX10 KR10 BB10 O3 O4 O5 O6 KX KR BB
          obtain ⟨i, lst, wh, any, rfl, rfl, rfl, rfl, hi, O5, O6, O3, O4, KX, KR, BB⟩ := hrel
          by_cases him : i < m
          · have him' : (i : Int) < (m : Int) := by omega
            have hi0 : (0 : Int) ≤ (i : Int) := by omega
            obtain ⟨ni, hni⟩ : ∃ x, x = from_ + i := ⟨_, rfl⟩
            have hwi : IntKind.u64.wrap (i : Int) = (i : Nat) := by rw [IntKind.wrap_u64]; omega
            have hwn : IntKind.u64.wrap ((from_ : Int) + (i : Int)) = (ni : Nat) := by rw [IntKind.wrap_u64]; have := HFM.out; omega
            clear hni
            by_cases hnt : tp ≤ ni
            · have hnt' : (tp : Int) ≤ (ni : Int) := by omega
              go_wp2_with fail
              go_roundw
              case rel => exact ⟨i + 1, lst, false, any, rfl, rfl, rfl, by go_num, by omega, O5, O6, O3, O4, KX, KR, BB⟩
              case measure => simp [intOf]; omega
            · have hnt' : ¬ (tp : Int) ≤ (ni : Int) := by omega
              by_cases hnn : ni < nx
              · have hnn' : (ni : Int) < (nx : Int) := by omega
                go_wp2_with fail
                go_roundw
                case rel => exact ⟨i + 1, lst, wh, any, rfl, rfl, rfl, by go_num, by omega, O5, O6, O3, O4, KX, KR, BB⟩
                case measure => simp [intOf]; omega
              · have hnn' : ¬ (ni : Int) < (nx : Int) := by omega
                obtain ⟨ix, hix⟩ : ∃ x, x = ni - base := ⟨_, rfl⟩
                have hwx : (ni : Int) - (base : Int) = (ix : Nat) := by have := HNX.out; omega
                have hwy : IntKind.u64.wrap (ix : Int) = (ix : Nat) := by rw [IntKind.wrap_u64]; have := HNX.out; have := HED.out; have := HTP.out; omega
                have hxn : ix < n := by have := HNX.out; have := HED.out; have := HTP.out; omega
                have hxn' : (ix : Int) < (n : Int) := by omega
                have hx0 : (0 : Int) ≤ (ix : Int) := by omega
                have hn0 : 0 < n := by omega
                clear hix
                obtain ⟨hn5, o5⟩ := O5.out
                obtain ⟨yn6, o6, hy6⟩ := O6.out
                obtain ⟨g5, hA5, hg5, hg5l⟩ := own_at o5 hn0
                obtain ⟨g6, hA6, hg6, hg6l⟩ := own_at o6 hn0
                obtain ⟨b3, o3, ov, hb3, hb3l, hc3⟩ := (Rd.of_own O3.out).bl hxn
                obtain ⟨bb2, ob, bx, hAb, hbb, hbx, _⟩ := (HBR.out.below BB.out.1).nth him
                subst hA5
                subst hA6
                subst hb3
                subst hAb
                have O5X := Sh.mk o5
                have O6X := Sh.mk o6
                have HY6 := Sh.mk hy6
                have HG5 := Sh.mk hg5
                have HG6 := Sh.mk hg6
                have HBX := Sh.mk hbx
                have HBB := Sh.mk hbb
                have f0 : wr.cell? ⟨w.heap.size, 0, none⟩ = some (.int .u64 (base : Int)) := by rw [KX.out.cell]; rfl
                clear o5 o6 hy6 hg5 hg6 hg5l hg6l hbx hbb hb3l
                cases any
                · cases ov
                  · go_upto_region 24 with fail
                    refine OX.wp_ord [(0, .pure), (1, .pure), (2, .pure), (3, .read), (4, .pure), (5, .pure), (6, .pure), (7, .pure), (8, .read), (9, .pure), (10, .pure), (11, .pure), (12, .pure), (13, .read), (14, .pure), (15, .sole), (16, .pure), (17, .sole)] ⟨fun k => k = g5 ∨ k = g6, []⟩ (by kernel_rfl) (by kernel_rfl) (fun QQ hQ wd hwd => ?_); (try simp only [List.map_cons, List.map_nil, List.getD_cons_zero, List.getD_cons_succ])
                    have hD : Below wr.heap.size wr wd := by rw [hwd.out]; exact (Below.refl _ _).drew
                    replace KX := Sh.mk (KX.out.below hD KX.out.lt)
                    replace KR := Sh.mk (KR.out.below hD KR.out.lt)
                    replace O3 := Sh.mk (own_below O3.out hD fun g hg => (O3.out.lt g hg).2)
                    replace O4 := Sh.mk (own_below O4.out hD fun g hg => (O4.out.lt g hg).2)
                    replace O5X := Sh.mk (own_below O5X.out hD fun g hg => (O5X.out.lt g hg).2)
                    replace O6X := Sh.mk (own_below O6X.out hD fun g hg => (O6X.out.lt g hg).2)
                    have hbx := (hD.cell (p := ⟨bb2, ob + i, none⟩) (Nat.lt_of_lt_of_le HBB.out BB.out.1.size)).trans HBX.out
                    replace BB := Sh.mk (show Below w.heap.size w wd ∧ w.heap.size + 2 ≤ wd.heap.size from ⟨BB.out.1.trans (hD.mono BB.out.1.size), Nat.le_trans BB.out.2 hD.size⟩)
                    clear hD hwd f0 hc3 O5 O6
                    have hnX : ¬ (w.heap.size = g5 ∨ w.heap.size = g6) := by
                      rintro (e | e)
                      · exact own_nt O5X.out KX.out (by decide) (by simp [Value.ownBlock, e])
                      · exact own_nt O6X.out KX.out (by decide) (by simp [Value.ownBlock, e])
                    have hnB : ¬ (bb2 = g5 ∨ bb2 = g6) := by have h1 := HBB.out; have h2 := HG5.out; have h3 := HG6.out; omega
                    have f0 : wd.cell? ⟨w.heap.size, 0, none⟩ = some (.int .u64 (base : Int)) := by rw [KX.out.cell]; rfl
                    (refine OX.o_pure (v := ?_) (by rfl) (fun w' => ?_) ?_; rotate_left; (focus (go_simp; (try with_reducible rfl))); (try simp only [Act.put, List.setIfInBounds_toArray, List.set_cons_zero, List.set_cons_succ]))
                    (refine OX.o_pure (v := ?_) (by rfl) (fun w' => ?_) ?_; rotate_left; (focus (go_simp; (try with_reducible rfl))); (try simp only [Act.put, List.setIfInBounds_toArray, List.set_cons_zero, List.set_cons_succ]))
                    (refine OX.o_pure (v := ?_) (by rfl) (fun w' => ?_) ?_; rotate_left; (focus (go_simp; (try with_reducible rfl))); (try simp only [Act.put, List.setIfInBounds_toArray, List.set_cons_zero, List.set_cons_succ]))
                    (refine OX.o_load _ (by rfl) rfl rfl (by dsimp only; first | assumption | omega) (by assumption) (by kernel_rfl) ?_; simp only [Act.put, List.setIfInBounds_toArray, List.set_cons_zero, List.set_cons_succ])
                    (refine OX.o_pure (v := ?_) (by rfl) (fun w' => ?_) ?_; rotate_left; (focus (go_simp; (try with_reducible rfl))); (try simp only [Act.put, List.setIfInBounds_toArray, List.set_cons_zero, List.set_cons_succ]))
                    (refine OX.o_pure (v := ?_) (by rfl) (fun w' => ?_) ?_; rotate_left; (focus (go_simp; (try with_reducible rfl))); (try simp only [Act.put, List.setIfInBounds_toArray, List.set_cons_zero, List.set_cons_succ]))
                    (refine OX.o_pure (v := ?_) (by rfl) (fun w' => ?_) ?_; rotate_left; (focus (go_simp; (try with_reducible rfl))); (try simp only [Act.put, List.setIfInBounds_toArray, List.set_cons_zero, List.set_cons_succ]))
                    (refine OX.o_pure (v := ?_) (by rfl) (fun w' => ?_) ?_; rotate_left; (focus (go_simp; (try with_reducible rfl))); (try simp only [Act.put, List.setIfInBounds_toArray, List.set_cons_zero, List.set_cons_succ]))
                    (refine OX.o_load _ (by rfl) rfl rfl (by dsimp only; first | assumption | omega) (by assumption) (by kernel_rfl) ?_; simp only [Act.put, List.setIfInBounds_toArray, List.set_cons_zero, List.set_cons_succ])
                    (refine OX.o_pure (v := ?_) (by rfl) (fun w' => ?_) ?_; rotate_left; (focus (go_simp; (try with_reducible rfl))); (try simp only [Act.put, List.setIfInBounds_toArray, List.set_cons_zero, List.set_cons_succ]))
                    (refine OX.o_pure (v := ?_) (by rfl) (fun w' => ?_) ?_; rotate_left; (focus (go_simp; (try with_reducible rfl))); (try simp only [Act.put, List.setIfInBounds_toArray, List.set_cons_zero, List.set_cons_succ]))
                    (refine OX.o_pure (v := ?_) (by rfl) (fun w' => ?_) ?_; rotate_left; (focus (go_simp; (try with_reducible rfl))); (try simp only [Act.put, List.setIfInBounds_toArray, List.set_cons_zero, List.set_cons_succ]))
                    (refine OX.o_pure (v := ?_) (by rfl) (fun w' => ?_) ?_; rotate_left; (focus (go_simp; (try with_reducible rfl))); (try simp only [Act.put, List.setIfInBounds_toArray, List.set_cons_zero, List.set_cons_succ]))
                    (refine OX.o_load _ (by rfl) rfl rfl (by dsimp only; first | assumption | omega) (by assumption) (by kernel_rfl) ?_; simp only [Act.put, List.setIfInBounds_toArray, List.set_cons_zero, List.set_cons_succ])
                    (refine OX.o_pure (v := ?_) (by rfl) (fun w' => ?_) ?_; rotate_left; (focus (go_simp; (try with_reducible rfl))); (try simp only [Act.put, List.setIfInBounds_toArray, List.set_cons_zero, List.set_cons_succ]))
                    obtain ⟨⟨v5, q5⟩, z5⟩ := own_cells O5X.out hxn
                    refine OX.o_sole (fun K hK => ?_)
                    go_wp2_with fail
                    refine hK _ _ (fun _ => OX.ExtB.solo (Solo.refl.setCell _ _) (Or.inl rfl)) ?_; clear hK K
                    obtain ⟨p5, s5⟩ := own_put1 O5X.out hxn (v := .bool true)
                    have KX1 := Sh.mk (s5.blk KX.out (fun e => own_nt O5X.out KX.out (by decide) (by simp [Value.ownBlock, e])))
                    have KR1 := Sh.mk (s5.blk KR.out (fun e => own_nt O5X.out KR.out (by decide) (by simp [Value.ownBlock, e])))
                    have O31 := Sh.mk (own_kept O3.out fun k ho => s5.2.2 k (by rintro rfl; exact HD5.out _ ho (by simp [Value.ownBlock])))
                    have O41 := Sh.mk (own_fr O4.out O5X.out (by decide) s5.grownBy)
                    have O61 := Sh.mk (own_fr O6X.out O5X.out (by decide) s5.grownBy)
                    have O51 := Sh.mk (show (wd.setCell ⟨g5, ix, none⟩ (.bool true)).ownsRow w.heap.size 4 1 (.slice (some ⟨g5, 0, none⟩) n c5) n (bls (hn5.set ix true)) by rw [← bls_set]; exact p5)
                    have BB1 := Sh.mk (show Below w.heap.size w (wd.setCell ⟨g5, ix, none⟩ (.bool true)) ∧ w.heap.size + 2 ≤ (wd.setCell ⟨g5, ix, none⟩ (.bool true)).heap.size from ⟨BB.out.1.trans (s5.1.mono HG5.out), by rw [s5.2.1]; exact BB.out.2⟩)
                    clear p5 s5 q5 z5 v5 KX KR O3 O4 O5X O6X BB f0 hbx
                    generalize wd.setCell ⟨g5, ix, none⟩ (.bool true) = w11 at *
                    (refine OX.o_pure (v := ?_) (by rfl) (fun w' => ?_) ?_; rotate_left; (focus (go_simp; (try with_reducible rfl))); (try simp only [Act.put, List.setIfInBounds_toArray, List.set_cons_zero, List.set_cons_succ]))
                    obtain ⟨⟨v6, q6⟩, z6⟩ := own_cells O61.out hxn
                    refine OX.o_sole (fun K hK => ?_)
                    go_wp2_with fail
                    refine hK _ _ (fun _ => OX.ExtB.solo (Solo.refl.setCell _ _) (Or.inr rfl)) ?_; clear hK K
                    refine OX.o_nil (hQ.out _ _ ?_); clear hQ QQ
                    obtain ⟨p6, s6⟩ := own_put1 O61.out hxn (v := .int .u8 (bx : Int))
                    have KX2 := Sh.mk (s6.blk KX1.out (fun e => own_nt O61.out KX1.out (by decide) (by simp [Value.ownBlock, e])))
                    have KR2 := Sh.mk (s6.blk KR1.out (fun e => own_nt O61.out KR1.out (by decide) (by simp [Value.ownBlock, e])))
                    have O42 := Sh.mk (own_kept O41.out fun k ho => s6.2.2 k (by rintro rfl; exact HD6.out _ ho (by simp [Value.ownBlock])))
                    have O32 := Sh.mk (own_fr O31.out O61.out (by decide) s6.grownBy)
                    have O52 := Sh.mk (⟨_, own_fr O51.out O61.out (by decide) s6.grownBy⟩ : ∃ hn : List Bool, (w11.setCell ⟨g6, ix, none⟩ (.int .u8 (bx : Int))).ownsRow w.heap.size 4 1 (.slice (some ⟨g5, 0, none⟩) n c5) n (bls hn))
                    have O62 := Sh.mk (show ∃ yn : List Nat, (w11.setCell ⟨g6, ix, none⟩ (.int .u8 (bx : Int))).ownsRow w.heap.size 5 1 (.slice (some ⟨g6, 0, none⟩) n c6) n (ns .u8 yn) ∧ yn.length = n from ⟨yn6.set ix bx, by rw [← ns_set]; exact p6, by rw [List.length_set]; exact HY6.out⟩)
                    have BB2 := Sh.mk (show Below w.heap.size w (w11.setCell ⟨g6, ix, none⟩ (.int .u8 (bx : Int))) ∧ w.heap.size + 2 ≤ (w11.setCell ⟨g6, ix, none⟩ (.int .u8 (bx : Int))).heap.size from ⟨BB1.out.1.trans (s6.1.mono HG6.out), by rw [s6.2.1]; exact BB1.out.2⟩)
                    clear hnX hnB p6 s6 q6 z6 v6 KX1 KR1 O31 O41 O51 O61 BB1
                    generalize w11.setCell ⟨g6, ix, none⟩ (.int .u8 (bx : Int)) = w12 at *
                    go_wp2_with fail
                    go_roundw
                    case rel => exact ⟨i + 1, ni, wh, true, rfl, rfl, rfl, by go_num, by omega, O52, O62, O32, O42, KX2, KR2, BB2⟩
                    case measure => simp [intOf]; omega

                  · go_wp2_with fail
                    go_roundw
                    case rel => exact ⟨i + 1, ni, wh, true, rfl, rfl, rfl, by go_num, by omega, O5, O6, O3, O4, KX, KR, BB⟩
                    case measure => simp [intOf]; omega
                · cases ov
                  · go_upto_region 24 with fail
                    refine OX.wp_ord [(0, .pure), (1, .pure), (2, .pure), (3, .read), (4, .pure), (5, .pure), (6, .pure), (7, .pure), (8, .read), (9, .pure), (10, .pure), (11, .pure), (12, .pure), (13, .read), (14, .pure), (15, .sole), (16, .pure), (17, .sole)] ⟨fun k => k = g5 ∨ k = g6, []⟩ (by kernel_rfl) (by kernel_rfl) (fun QQ hQ wd hwd => ?_); (try simp only [List.map_cons, List.map_nil, List.getD_cons_zero, List.getD_cons_succ])
                    have hD : Below wr.heap.size wr wd := by rw [hwd.out]; exact (Below.refl _ _).drew
                    replace KX := Sh.mk (KX.out.below hD KX.out.lt)
                    replace KR := Sh.mk (KR.out.below hD KR.out.lt)
                    replace O3 := Sh.mk (own_below O3.out hD fun g hg => (O3.out.lt g hg).2)
                    replace O4 := Sh.mk (own_below O4.out hD fun g hg => (O4.out.lt g hg).2)
                    replace O5X := Sh.mk (own_below O5X.out hD fun g hg => (O5X.out.lt g hg).2)
                    replace O6X := Sh.mk (own_below O6X.out hD fun g hg => (O6X.out.lt g hg).2)
                    have hbx := (hD.cell (p := ⟨bb2, ob + i, none⟩) (Nat.lt_of_lt_of_le HBB.out BB.out.1.size)).trans HBX.out
                    replace BB := Sh.mk (show Below w.heap.size w wd ∧ w.heap.size + 2 ≤ wd.heap.size from ⟨BB.out.1.trans (hD.mono BB.out.1.size), Nat.le_trans BB.out.2 hD.size⟩)
                    clear hD hwd f0 hc3 O5 O6
                    have hnX : ¬ (w.heap.size = g5 ∨ w.heap.size = g6) := by
                      rintro (e | e)
                      · exact own_nt O5X.out KX.out (by decide) (by simp [Value.ownBlock, e])
                      · exact own_nt O6X.out KX.out (by decide) (by simp [Value.ownBlock, e])
                    have hnB : ¬ (bb2 = g5 ∨ bb2 = g6) := by have h1 := HBB.out; have h2 := HG5.out; have h3 := HG6.out; omega
                    have f0 : wd.cell? ⟨w.heap.size, 0, none⟩ = some (.int .u64 (base : Int)) := by rw [KX.out.cell]; rfl
                    (refine OX.o_pure (v := ?_) (by rfl) (fun w' => ?_) ?_; rotate_left; (focus (go_simp; (try with_reducible rfl))); (try simp only [Act.put, List.setIfInBounds_toArray, List.set_cons_zero, List.set_cons_succ]))
                    (refine OX.o_pure (v := ?_) (by rfl) (fun w' => ?_) ?_; rotate_left; (focus (go_simp; (try with_reducible rfl))); (try simp only [Act.put, List.setIfInBounds_toArray, List.set_cons_zero, List.set_cons_succ]))
                    (refine OX.o_pure (v := ?_) (by rfl) (fun w' => ?_) ?_; rotate_left; (focus (go_simp; (try with_reducible rfl))); (try simp only [Act.put, List.setIfInBounds_toArray, List.set_cons_zero, List.set_cons_succ]))
                    (refine OX.o_load _ (by rfl) rfl rfl (by dsimp only; first | assumption | omega) (by assumption) (by kernel_rfl) ?_; simp only [Act.put, List.setIfInBounds_toArray, List.set_cons_zero, List.set_cons_succ])
                    (refine OX.o_pure (v := ?_) (by rfl) (fun w' => ?_) ?_; rotate_left; (focus (go_simp; (try with_reducible rfl))); (try simp only [Act.put, List.setIfInBounds_toArray, List.set_cons_zero, List.set_cons_succ]))
                    (refine OX.o_pure (v := ?_) (by rfl) (fun w' => ?_) ?_; rotate_left; (focus (go_simp; (try with_reducible rfl))); (try simp only [Act.put, List.setIfInBounds_toArray, List.set_cons_zero, List.set_cons_succ]))
                    (refine OX.o_pure (v := ?_) (by rfl) (fun w' => ?_) ?_; rotate_left; (focus (go_simp; (try with_reducible rfl))); (try simp only [Act.put, List.setIfInBounds_toArray, List.set_cons_zero, List.set_cons_succ]))
                    (refine OX.o_pure (v := ?_) (by rfl) (fun w' => ?_) ?_; rotate_left; (focus (go_simp; (try with_reducible rfl))); (try simp only [Act.put, List.setIfInBounds_toArray, List.set_cons_zero, List.set_cons_succ]))
                    (refine OX.o_load _ (by rfl) rfl rfl (by dsimp only; first | assumption | omega) (by assumption) (by kernel_rfl) ?_; simp only [Act.put, List.setIfInBounds_toArray, List.set_cons_zero, List.set_cons_succ])
                    (refine OX.o_pure (v := ?_) (by rfl) (fun w' => ?_) ?_; rotate_left; (focus (go_simp; (try with_reducible rfl))); (try simp only [Act.put, List.setIfInBounds_toArray, List.set_cons_zero, List.set_cons_succ]))
                    (refine OX.o_pure (v := ?_) (by rfl) (fun w' => ?_) ?_; rotate_left; (focus (go_simp; (try with_reducible rfl))); (try simp only [Act.put, List.setIfInBounds_toArray, List.set_cons_zero, List.set_cons_succ]))
                    (refine OX.o_pure (v := ?_) (by rfl) (fun w' => ?_) ?_; rotate_left; (focus (go_simp; (try with_reducible rfl))); (try simp only [Act.put, List.setIfInBounds_toArray, List.set_cons_zero, List.set_cons_succ]))
                    (refine OX.o_pure (v := ?_) (by rfl) (fun w' => ?_) ?_; rotate_left; (focus (go_simp; (try with_reducible rfl))); (try simp only [Act.put, List.setIfInBounds_toArray, List.set_cons_zero, List.set_cons_succ]))
                    (refine OX.o_load _ (by rfl) rfl rfl (by dsimp only; first | assumption | omega) (by assumption) (by kernel_rfl) ?_; simp only [Act.put, List.setIfInBounds_toArray, List.set_cons_zero, List.set_cons_succ])
                    (refine OX.o_pure (v := ?_) (by rfl) (fun w' => ?_) ?_; rotate_left; (focus (go_simp; (try with_reducible rfl))); (try simp only [Act.put, List.setIfInBounds_toArray, List.set_cons_zero, List.set_cons_succ]))
                    obtain ⟨⟨v5, q5⟩, z5⟩ := own_cells O5X.out hxn
                    refine OX.o_sole (fun K hK => ?_)
                    go_wp2_with fail
                    refine hK _ _ (fun _ => OX.ExtB.solo (Solo.refl.setCell _ _) (Or.inl rfl)) ?_; clear hK K
                    obtain ⟨p5, s5⟩ := own_put1 O5X.out hxn (v := .bool true)
                    have KX1 := Sh.mk (s5.blk KX.out (fun e => own_nt O5X.out KX.out (by decide) (by simp [Value.ownBlock, e])))
                    have KR1 := Sh.mk (s5.blk KR.out (fun e => own_nt O5X.out KR.out (by decide) (by simp [Value.ownBlock, e])))
                    have O31 := Sh.mk (own_kept O3.out fun k ho => s5.2.2 k (by rintro rfl; exact HD5.out _ ho (by simp [Value.ownBlock])))
                    have O41 := Sh.mk (own_fr O4.out O5X.out (by decide) s5.grownBy)
                    have O61 := Sh.mk (own_fr O6X.out O5X.out (by decide) s5.grownBy)
                    have O51 := Sh.mk (show (wd.setCell ⟨g5, ix, none⟩ (.bool true)).ownsRow w.heap.size 4 1 (.slice (some ⟨g5, 0, none⟩) n c5) n (bls (hn5.set ix true)) by rw [← bls_set]; exact p5)
                    have BB1 := Sh.mk (show Below w.heap.size w (wd.setCell ⟨g5, ix, none⟩ (.bool true)) ∧ w.heap.size + 2 ≤ (wd.setCell ⟨g5, ix, none⟩ (.bool true)).heap.size from ⟨BB.out.1.trans (s5.1.mono HG5.out), by rw [s5.2.1]; exact BB.out.2⟩)
                    clear p5 s5 q5 z5 v5 KX KR O3 O4 O5X O6X BB f0 hbx
                    generalize wd.setCell ⟨g5, ix, none⟩ (.bool true) = w11 at *
                    (refine OX.o_pure (v := ?_) (by rfl) (fun w' => ?_) ?_; rotate_left; (focus (go_simp; (try with_reducible rfl))); (try simp only [Act.put, List.setIfInBounds_toArray, List.set_cons_zero, List.set_cons_succ]))
                    obtain ⟨⟨v6, q6⟩, z6⟩ := own_cells O61.out hxn
                    refine OX.o_sole (fun K hK => ?_)
                    go_wp2_with fail
                    refine hK _ _ (fun _ => OX.ExtB.solo (Solo.refl.setCell _ _) (Or.inr rfl)) ?_; clear hK K
                    refine OX.o_nil (hQ.out _ _ ?_); clear hQ QQ
                    obtain ⟨p6, s6⟩ := own_put1 O61.out hxn (v := .int .u8 (bx : Int))
                    have KX2 := Sh.mk (s6.blk KX1.out (fun e => own_nt O61.out KX1.out (by decide) (by simp [Value.ownBlock, e])))
                    have KR2 := Sh.mk (s6.blk KR1.out (fun e => own_nt O61.out KR1.out (by decide) (by simp [Value.ownBlock, e])))
                    have O42 := Sh.mk (own_kept O41.out fun k ho => s6.2.2 k (by rintro rfl; exact HD6.out _ ho (by simp [Value.ownBlock])))
                    have O32 := Sh.mk (own_fr O31.out O61.out (by decide) s6.grownBy)
                    have O52 := Sh.mk (⟨_, own_fr O51.out O61.out (by decide) s6.grownBy⟩ : ∃ hn : List Bool, (w11.setCell ⟨g6, ix, none⟩ (.int .u8 (bx : Int))).ownsRow w.heap.size 4 1 (.slice (some ⟨g5, 0, none⟩) n c5) n (bls hn))
                    have O62 := Sh.mk (show ∃ yn : List Nat, (w11.setCell ⟨g6, ix, none⟩ (.int .u8 (bx : Int))).ownsRow w.heap.size 5 1 (.slice (some ⟨g6, 0, none⟩) n c6) n (ns .u8 yn) ∧ yn.length = n from ⟨yn6.set ix bx, by rw [← ns_set]; exact p6, by rw [List.length_set]; exact HY6.out⟩)
                    have BB2 := Sh.mk (show Below w.heap.size w (w11.setCell ⟨g6, ix, none⟩ (.int .u8 (bx : Int))) ∧ w.heap.size + 2 ≤ (w11.setCell ⟨g6, ix, none⟩ (.int .u8 (bx : Int))).heap.size from ⟨BB1.out.1.trans (s6.1.mono HG6.out), by rw [s6.2.1]; exact BB1.out.2⟩)
                    clear hnX hnB p6 s6 q6 z6 v6 KX1 KR1 O31 O41 O51 O61 BB1
                    generalize w11.setCell ⟨g6, ix, none⟩ (.int .u8 (bx : Int)) = w12 at *
                    go_wp2_with fail
                    go_roundw
                    case rel => exact ⟨i + 1, lst, wh, true, rfl, rfl, rfl, by go_num, by omega, O52, O62, O32, O42, KX2, KR2, BB2⟩
                    case measure => simp [intOf]; omega

                  · go_wp2_with fail
                    go_roundw
                    case rel => exact ⟨i + 1, lst, wh, true, rfl, rfl, rfl, by go_num, by omega, O5, O6, O3, O4, KX, KR, BB⟩
                    case measure => simp [intOf]; omega
          · have him' : ¬ (i : Int) < (m : Int) := by omega
            cases any
            · have f0 : wr.cell? ⟨w.heap.size, 0, none⟩ = some (.int .u64 (base : Int)) := by rw [KX.out.cell]; rfl
              have f1 : wr.cell? ⟨w.heap.size, 1, none⟩ = some (.slice A3 n c3) := by rw [KX.out.cell]; rfl
              have f2 : wr.cell? ⟨w.heap.size, 2, none⟩ = some (.slice A4 n c4) := by rw [KX.out.cell]; rfl
              have f3 : wr.cell? ⟨w.heap.size, 3, none⟩ = some (.int .i64 (most : Int)) := by rw [KX.out.cell]; rfl
              have f4 : wr.cell? ⟨w.heap.size, 4, none⟩ = some (.int .u64 (en : Int)) := by rw [KX.out.cell]; rfl
              have f5 : wr.cell? ⟨w.heap.size, 5, none⟩ = some (.bool kn) := by rw [KX.out.cell]; rfl
              go_wp2_with (refine stm_store (cs' := #[.int .u64 (base : Int), .slice A3 n c3, .slice A4 n c4, .int .i64 (most : Int), .int .u64 (en : Int), .bool kn]) KR.out rfl _ _ rfl rfl rfl (by simp) (by kernel_rfl) (by simp [Value.oneCell']) (by simp [setL]) ?_)
              intro w21 hk hs
              have OR1 := Sh.mk (own_kept O3.out fun k ho => hs.2.2 k (by rintro rfl; exact own_nt O3.out KR.out (by decide) ho))
              have OR2 := Sh.mk (own_kept O4.out fun k ho => hs.2.2 k (by rintro rfl; exact own_nt O4.out KR.out (by decide) ho))
              have BE := Sh.mk (BB.out.1.trans (hs.1.mono (Nat.le_succ _)))
              have r0 : w21.cell? ⟨w.heap.size + 1, 0, none⟩ = some (.int .u64 (base : Int)) := by rw [hk.cell]; rfl
              have r1 : w21.cell? ⟨w.heap.size + 1, 1, none⟩ = some (.slice A3 n c3) := by rw [hk.cell]; rfl
              have r2 : w21.cell? ⟨w.heap.size + 1, 2, none⟩ = some (.slice A4 n c4) := by rw [hk.cell]; rfl
              have r3 : w21.cell? ⟨w.heap.size + 1, 3, none⟩ = some (.int .i64 (most : Int)) := by rw [hk.cell]; rfl
              have r4 : w21.cell? ⟨w.heap.size + 1, 4, none⟩ = some (.int .u64 (en : Int)) := by rw [hk.cell]; rfl
              have r5 : w21.cell? ⟨w.heap.size + 1, 5, none⟩ = some (.bool kn) := by rw [hk.cell]; rfl
              clear hs
              go_wp2_with fail
              refine bodyPost_ret (v := .tuple #[.agg #[.int .u64 (base : Int), .slice A3 n c3, .slice A4 n c4, .int .i64 (most : Int), .int .u64 (en : Int), .bool kn], .bool wh]) (by simp [results, Try.results21, go_sem, r0, r1, r2, r3, r4, r5]) rfl ?_
              exact XP.mk' ⟨base, en, kn, A3, A4, c3, c4, rfl, Nat.le_refl _, ⟨hl, yl, own_mono OR1.out HB1.out, (by unfold Nats; rw [HY3.out]; exact own_mono OR2.out HB1.out), HY3.out⟩⟩ BE.out
            · by_cases hgt : nx < lst
              · have hgt' : (nx : Int) < (lst : Int) := by omega
                have f0 : wr.cell? ⟨w.heap.size, 0, none⟩ = some (.int .u64 (base : Int)) := by rw [KX.out.cell]; rfl
                have f1 : wr.cell? ⟨w.heap.size, 1, none⟩ = some (.slice A3 n c3) := by rw [KX.out.cell]; rfl
                have f2 : wr.cell? ⟨w.heap.size, 2, none⟩ = some (.slice A4 n c4) := by rw [KX.out.cell]; rfl
                have f3 : wr.cell? ⟨w.heap.size, 3, none⟩ = some (.int .i64 (most : Int)) := by rw [KX.out.cell]; rfl
                have f4 : wr.cell? ⟨w.heap.size, 4, none⟩ = some (.int .u64 (en : Int)) := by rw [KX.out.cell]; rfl
                have f5 : wr.cell? ⟨w.heap.size, 5, none⟩ = some (.bool kn) := by rw [KX.out.cell]; rfl
                go_wp2_with fail
                refine (r18_pieces base most en n kn A3 A4 c3 c4 w.heap.size wr ⟨hl, yl, O3.out, (by unfold Nats; rw [HY3.out]; exact O4.out), HY3.out⟩ hn hb).mono ?_
                rintro e1 w13 ⟨vp1, rfl, ⟨lp1, hp1⟩, hb13⟩
                obtain ⟨Ap1, qw, cp1, rfl, _, _, _, _⟩ := Pcs.out hp1
                clear hp1
                replace KX := Sh.mk (KX.out.below hb13 KX.out.lt)
                replace KR := Sh.mk (KR.out.below hb13 KR.out.lt)
                replace O3 := Sh.mk (own_below O3.out hb13 fun g hg => (O3.out.lt g hg).2)
                replace O4 := Sh.mk (own_below O4.out hb13 fun g hg => (O4.out.lt g hg).2)
                replace BB := Sh.mk (show Below w.heap.size w w13 ∧ w.heap.size + 2 ≤ w13.heap.size from ⟨BB.out.1.trans (hb13.mono BB.out.1.size), Nat.le_trans BB.out.2 hb13.size⟩)
                obtain ⟨hn5, o5⟩ := O5.out
                obtain ⟨yn6, o6, hy6⟩ := O6.out
                replace O5 := Sh.mk (⟨hn5, own_below o5 hb13 fun g hg => (o5.lt g hg).2⟩ : ∃ hn : List Bool, w13.ownsRow w.heap.size 4 1 (.slice A5 n c5) n (bls hn))
                replace O6 := Sh.mk (⟨yn6, own_below o6 hb13 fun g hg => (o6.lt g hg).2, hy6⟩ : ∃ yn : List Nat, w13.ownsRow w.heap.size 5 1 (.slice A6 n c6) n (ns .u8 yn) ∧ yn.length = n)
                clear hn5 o5 yn6 o6 hy6
                clear hb13 f0 f1 f2 f3 f4 f5
                have f0 : w13.cell? ⟨w.heap.size, 0, none⟩ = some (.int .u64 (base : Int)) := by rw [KX.out.cell]; rfl
                have f1 : w13.cell? ⟨w.heap.size, 1, none⟩ = some (.slice A3 n c3) := by rw [KX.out.cell]; rfl
                have f2 : w13.cell? ⟨w.heap.size, 2, none⟩ = some (.slice A4 n c4) := by rw [KX.out.cell]; rfl
                have f3 : w13.cell? ⟨w.heap.size, 3, none⟩ = some (.int .i64 (most : Int)) := by rw [KX.out.cell]; rfl
                have f4 : w13.cell? ⟨w.heap.size, 4, none⟩ = some (.int .u64 (en : Int)) := by rw [KX.out.cell]; rfl
                have f5 : w13.cell? ⟨w.heap.size, 5, none⟩ = some (.bool kn) := by rw [KX.out.cell]; rfl
                go_upto_region 30 with fail
                have hbA := (Below.refl w13.heap.size w13).alloc (Nat.le_refl _) (.cells #[.int .u64 (base : Int), .slice A3 n c3, .slice A4 n c4, .int .i64 (most : Int), .int .u64 (en : Int), .bool kn] 38)
                have KY := Sh.mk (Blk.new w13 38 #[.int .u64 (base : Int), .slice A3 n c3, .slice A4 n c4, .int .i64 (most : Int), .int .u64 (en : Int), .bool kn])
                obtain ⟨yb, hyb⟩ : ∃ y, y = w13.heap.size := ⟨_, rfl⟩
                have HYB := Sh.mk (show w.heap.size + 2 ≤ yb by rw [hyb]; exact BB.out.2)
                rw [← hyb] at KY ⊢
                replace KX := Sh.mk (KX.out.below hbA KX.out.lt)
                replace KR := Sh.mk (KR.out.below hbA KR.out.lt)
                replace O3 := Sh.mk (own_below O3.out hbA fun g hg => (O3.out.lt g hg).2)
                replace O4 := Sh.mk (own_below O4.out hbA fun g hg => (O4.out.lt g hg).2)
                replace BB := Sh.mk (show Below w.heap.size w (w13.alloc (.cells #[.int .u64 (base : Int), .slice A3 n c3, .slice A4 n c4, .int .i64 (most : Int), .int .u64 (en : Int), .bool kn] 38)) ∧ w.heap.size + 2 ≤ (w13.alloc (.cells #[.int .u64 (base : Int), .slice A3 n c3, .slice A4 n c4, .int .i64 (most : Int), .int .u64 (en : Int), .bool kn] 38)).heap.size from ⟨BB.out.1.trans (hbA.mono BB.out.1.size), Nat.le_trans BB.out.2 hbA.size⟩)
                obtain ⟨hn5, o5⟩ := O5.out
                obtain ⟨yn6, o6, hy6⟩ := O6.out
                replace O5 := Sh.mk (⟨hn5, own_below o5 hbA fun g hg => (o5.lt g hg).2⟩ : ∃ hn : List Bool, (w13.alloc (.cells #[.int .u64 (base : Int), .slice A3 n c3, .slice A4 n c4, .int .i64 (most : Int), .int .u64 (en : Int), .bool kn] 38)).ownsRow w.heap.size 4 1 (.slice A5 n c5) n (bls hn))
                replace O6 := Sh.mk (⟨yn6, own_below o6 hbA fun g hg => (o6.lt g hg).2, hy6⟩ : ∃ yn : List Nat, (w13.alloc (.cells #[.int .u64 (base : Int), .slice A3 n c3, .slice A4 n c4, .int .i64 (most : Int), .int .u64 (en : Int), .bool kn] 38)).ownsRow w.heap.size 5 1 (.slice A6 n c6) n (ns .u8 yn) ∧ yn.length = n)
                clear hn5 o5 yn6 o6 hy6
                clear hbA hyb f0 f1 f2 f3 f4 f5
                generalize w13.alloc (.cells #[.int .u64 (base : Int), .slice A3 n c3, .slice A4 n c4, .int .i64 (most : Int), .int .u64 (en : Int), .bool kn] 38) = w14 at *
                have z1 := KY.out.frozen 1
                have y1 : w14.cell? ⟨yb, 1, none⟩ = some (.slice A3 n c3) := by rw [KY.out.cell]; rfl
                go_upto_region 31 with fail
                have hsY : Solo yb w14 (w14.setCell ⟨yb, 1, none⟩ (.slice A5 n c5)) := Solo.refl.setCell _ _
                have hkY := KY.out.set 1 (.slice A5 n c5)
                have KYY : Sh (Blk (w14.setCell ⟨yb, 1, none⟩ (.slice A5 n c5)) yb 38 #[.int .u64 (base : Int), .slice A5 n c5, .slice A4 n c4, .int .i64 (most : Int), .int .u64 (en : Int), .bool kn]) := ⟨by simpa using hkY⟩
                have KXX := Sh.mk (hsY.blk KX.out (by have := HYB.out; omega))
                have KRR := Sh.mk (hsY.blk KR.out (by have := HYB.out; omega))
                obtain ⟨hn5, o5⟩ := O5.out
                obtain ⟨yn6, o6, hy6⟩ := O6.out
                have O3X := Sh.mk (own_kept O3.out fun k ho => hsY.2.2 k (by rintro rfl; exact own_nt O3.out KY.out (by decide) ho))
                have O4X := Sh.mk (own_kept O4.out fun k ho => hsY.2.2 k (by rintro rfl; exact own_nt O4.out KY.out (by decide) ho))
                have O5XX := Sh.mk (⟨hn5, own_kept o5 fun k ho => hsY.2.2 k (by rintro rfl; exact own_nt o5 KY.out (by decide) ho)⟩ : ∃ hn : List Bool, (w14.setCell ⟨yb, 1, none⟩ (.slice A5 n c5)).ownsRow w.heap.size 4 1 (.slice A5 n c5) n (bls hn))
                have O6XX := Sh.mk (⟨yn6, own_kept o6 fun k ho => hsY.2.2 k (by rintro rfl; exact own_nt o6 KY.out (by decide) ho), hy6⟩ : ∃ yn : List Nat, (w14.setCell ⟨yb, 1, none⟩ (.slice A5 n c5)).ownsRow w.heap.size 5 1 (.slice A6 n c6) n (ns .u8 yn) ∧ yn.length = n)
                have BBX := Sh.mk (show Below w.heap.size w (w14.setCell ⟨yb, 1, none⟩ (.slice A5 n c5)) ∧ w.heap.size + 2 ≤ (w14.setCell ⟨yb, 1, none⟩ (.slice A5 n c5)).heap.size from ⟨BB.out.1.trans (hsY.1.mono (by have := HYB.out; omega)), by rw [hsY.2.1]; exact BB.out.2⟩)
                clear hsY hkY KX KR KY O3 O4 O5 O6 BB hn5 o5 yn6 o6 hy6 z1 y1
                generalize w14.setCell ⟨yb, 1, none⟩ (.slice A5 n c5) = w15 at *
                have KX := KXX
                have KR := KRR
                have KY := KYY
                have O3 := O3X
                have O4 := O4X
                have O5 := O5XX
                have O6 := O6XX
                have BB := BBX
                clear KXX KRR KYY O3X O4X O5XX O6XX BBX
                refine wp_ord [(0, .read), (3, .pure), (4, .read), (1, .sole), (2, .pure), (5, .pure), (6, .pure), (7, .read), (10, .pure), (11, .pure), (8, .sole), (9, .pure), (12, .pure), (13, .pure)] [] (by kernel_rfl) (by kernel_rfl) (fun QQ hQ wd hwd => ?_); simp only [List.map_cons, List.map_nil, List.getD_cons_zero, List.getD_cons_succ]
                have hD : Below w15.heap.size w15 wd := by rw [hwd.out]; exact (Below.refl _ _).drew
                replace KX := Sh.mk (KX.out.below hD KX.out.lt)
                replace KR := Sh.mk (KR.out.below hD KR.out.lt)
                replace KY := Sh.mk (KY.out.below hD KY.out.lt)
                replace O3 := Sh.mk (own_below O3.out hD fun g hg => (O3.out.lt g hg).2)
                replace O4 := Sh.mk (own_below O4.out hD fun g hg => (O4.out.lt g hg).2)
                replace BB := Sh.mk (show Below w.heap.size w wd ∧ w.heap.size + 2 ≤ wd.heap.size from ⟨BB.out.1.trans (hD.mono BB.out.1.size), Nat.le_trans BB.out.2 hD.size⟩)
                obtain ⟨hn5, o5⟩ := O5.out
                obtain ⟨yn6, o6, hy6⟩ := O6.out
                replace O5 := Sh.mk (⟨hn5, own_below o5 hD fun g hg => (o5.lt g hg).2⟩ : ∃ hn : List Bool, wd.ownsRow w.heap.size 4 1 (.slice A5 n c5) n (bls hn))
                replace O6 := Sh.mk (⟨yn6, own_below o6 hD fun g hg => (o6.lt g hg).2, hy6⟩ : ∃ yn : List Nat, wd.ownsRow w.heap.size 5 1 (.slice A6 n c6) n (ns .u8 yn) ∧ yn.length = n)
                clear hn5 o5 yn6 o6 hy6
                clear hD hwd
                have f3 : wd.cell? ⟨w.heap.size, 3, none⟩ = some (.int .i64 (most : Int)) := by rw [KX.out.cell]; rfl
                (refine o_loads _ [.int .u64 (base : Int), .slice A5 n c5, .slice A4 n c4, .int .i64 (most : Int), .int .u64 (en : Int), .bool kn] (by rfl) rfl rfl (KY.out.loads 0 _ (by rfl)) (Nat.succ_pos _) (by kernel_rfl) (by kernel_rfl) ?_; simp only [Act.put, List.setIfInBounds_toArray, List.set_cons_zero, List.set_cons_succ])
                (refine o_pure (v := ?_) (by rfl) (fun w' => ?_) ?_; rotate_left; (focus (go_simp; (try with_reducible rfl); (try (rw [if_pos (by omega)]; (try with_reducible rfl))))); (try simp only [Act.put, List.setIfInBounds_toArray, List.set_cons_zero, List.set_cons_succ]))
                (refine o_load _ (by rfl) rfl rfl (by assumption) (by kernel_rfl) ?_; simp only [Act.put, List.setIfInBounds_toArray, List.set_cons_zero, List.set_cons_succ])
                clear f3
                refine o_sole (fun K hK => ?_)
                go_wp2_with fail
                refine (r18_pieces base most en n kn A5 A4 c5 c4 w.heap.size wd ⟨_, yl, O5.out.choose_spec, (by unfold Nats; rw [HY3.out]; exact O4.out), HY3.out⟩ hn hb).mono ?_
                rintro e2 w16 ⟨vp2, rfl, ⟨lp2, hp2⟩, hb16⟩
                obtain ⟨Ap2, q1, cp2, rfl, _, _, _, _⟩ := Pcs.out hp2
                clear hp2
                go_wp2_with fail
                refine hK _ _ (fun _ => Ext.of hb16) ?_; clear hK K
                replace KX := Sh.mk (KX.out.below hb16 KX.out.lt)
                replace KR := Sh.mk (KR.out.below hb16 KR.out.lt)
                replace KY := Sh.mk (KY.out.below hb16 KY.out.lt)
                replace O3 := Sh.mk (own_below O3.out hb16 fun g hg => (O3.out.lt g hg).2)
                replace O4 := Sh.mk (own_below O4.out hb16 fun g hg => (O4.out.lt g hg).2)
                replace BB := Sh.mk (show Below w.heap.size w w16 ∧ w.heap.size + 2 ≤ w16.heap.size from ⟨BB.out.1.trans (hb16.mono BB.out.1.size), Nat.le_trans BB.out.2 hb16.size⟩)
                obtain ⟨hn5, o5⟩ := O5.out
                obtain ⟨yn6, o6, hy6⟩ := O6.out
                replace O5 := Sh.mk (⟨hn5, own_below o5 hb16 fun g hg => (o5.lt g hg).2⟩ : ∃ hn : List Bool, w16.ownsRow w.heap.size 4 1 (.slice A5 n c5) n (bls hn))
                replace O6 := Sh.mk (⟨yn6, own_below o6 hb16 fun g hg => (o6.lt g hg).2, hy6⟩ : ∃ yn : List Nat, w16.ownsRow w.heap.size 5 1 (.slice A6 n c6) n (ns .u8 yn) ∧ yn.length = n)
                clear hn5 o5 yn6 o6 hy6
                clear hb16
                by_cases hq1 : most < q1
                · have hq1' : (most : Int) < (q1 : Int) := by omega
                  (refine o_pure (v := ?_) (by rfl) (fun w' => ?_) ?_; rotate_left; (focus (go_simp; (try with_reducible rfl); (try (rw [if_pos (by omega)]; (try with_reducible rfl))))); (try simp only [Act.put, List.setIfInBounds_toArray, List.set_cons_zero, List.set_cons_succ]))
                  (refine o_pure (v := ?_) (by rfl) (fun w' => ?_) ?_; rotate_left; (focus (go_simp; (try with_reducible rfl); (try (rw [if_pos (by omega)]; (try with_reducible rfl))))); (try simp only [Act.put, List.setIfInBounds_toArray, List.set_cons_zero, List.set_cons_succ]))
                  (refine o_pure (v := ?_) (by rfl) (fun w' => ?_) ?_; rotate_left; (focus (go_simp; (try with_reducible rfl); (try (rw [if_pos (by omega)]; (try with_reducible rfl))))); (try simp only [Act.put, List.setIfInBounds_toArray, List.set_cons_zero, List.set_cons_succ]))
                  (refine o_loads _ [.int .u64 (base : Int), .slice A5 n c5, .slice A4 n c4, .int .i64 (most : Int), .int .u64 (en : Int), .bool kn] (by rfl) rfl rfl (KY.out.loads 0 _ (by rfl)) (Nat.succ_pos _) (by kernel_rfl) (by kernel_rfl) ?_; simp only [Act.put, List.setIfInBounds_toArray, List.set_cons_zero, List.set_cons_succ])
                  (refine o_pure (v := ?_) (by rfl) (fun w' => ?_) ?_; rotate_left; (focus (go_simp; (try with_reducible rfl); (try (rw [if_pos (by omega)]; (try with_reducible rfl))))); (try simp only [Act.put, List.setIfInBounds_toArray, List.set_cons_zero, List.set_cons_succ]))
                  (refine o_pure (v := ?_) (by rfl) (fun w' => ?_) ?_; rotate_left; (focus (go_simp; (try with_reducible rfl); (try (rw [if_pos (by omega)]; (try with_reducible rfl))))); (try simp only [Act.put, List.setIfInBounds_toArray, List.set_cons_zero, List.set_cons_succ]))
                  refine o_sole (fun K hK => ?_)
                  go_wp2_with fail
                  refine (r18_pieces base most en n kn A5 A4 c5 c4 w.heap.size w16 ⟨_, yl, O5.out.choose_spec, (by unfold Nats; rw [HY3.out]; exact O4.out), HY3.out⟩ hn hb).mono ?_
                  rintro e3 w17 ⟨vp3, rfl, ⟨lp3, hp3⟩, hb17⟩
                  obtain ⟨Ap3, q2, cp3, rfl, _, _, _, _⟩ := Pcs.out hp3
                  clear hp3
                  go_wp2_with fail
                  refine hK _ _ (fun _ => Ext.of hb17) ?_; clear hK K
                  replace KX := Sh.mk (KX.out.below hb17 KX.out.lt)
                  replace KR := Sh.mk (KR.out.below hb17 KR.out.lt)
                  replace KY := Sh.mk (KY.out.below hb17 KY.out.lt)
                  replace O3 := Sh.mk (own_below O3.out hb17 fun g hg => (O3.out.lt g hg).2)
                  replace O4 := Sh.mk (own_below O4.out hb17 fun g hg => (O4.out.lt g hg).2)
                  replace BB := Sh.mk (show Below w.heap.size w w17 ∧ w.heap.size + 2 ≤ w17.heap.size from ⟨BB.out.1.trans (hb17.mono BB.out.1.size), Nat.le_trans BB.out.2 hb17.size⟩)
                  obtain ⟨hn5, o5⟩ := O5.out
                  obtain ⟨yn6, o6, hy6⟩ := O6.out
                  replace O5 := Sh.mk (⟨hn5, own_below o5 hb17 fun g hg => (o5.lt g hg).2⟩ : ∃ hn : List Bool, w17.ownsRow w.heap.size 4 1 (.slice A5 n c5) n (bls hn))
                  replace O6 := Sh.mk (⟨yn6, own_below o6 hb17 fun g hg => (o6.lt g hg).2, hy6⟩ : ∃ yn : List Nat, w17.ownsRow w.heap.size 5 1 (.slice A6 n c6) n (ns .u8 yn) ∧ yn.length = n)
                  clear hn5 o5 yn6 o6 hy6
                  clear hb17
                  by_cases hq2 : qw < q2
                  · have hq2' : (qw : Int) < (q2 : Int) := by omega
                    (refine o_pure (v := ?_) (by rfl) (fun w' => ?_) ?_; rotate_left; (focus (go_simp; (try with_reducible rfl); (try (rw [if_pos (by omega)]; (try with_reducible rfl))))); (try simp only [Act.put, List.setIfInBounds_toArray, List.set_cons_zero, List.set_cons_succ]))
                    (refine o_pure (v := ?_) (by rfl) (fun w' => ?_) ?_; rotate_left; (focus (go_simp; (try with_reducible rfl); (try (rw [if_pos (by omega)]; (try with_reducible rfl))))); (try simp only [Act.put, List.setIfInBounds_toArray, List.set_cons_zero, List.set_cons_succ]))
                    (refine o_pure (v := ?_) (by rfl) (fun w' => ?_) ?_; rotate_left; (focus (go_simp; (try with_reducible rfl); (try (rw [if_pos (by omega)]; (try with_reducible rfl))))); (try simp only [Act.put, List.setIfInBounds_toArray, List.set_cons_zero, List.set_cons_succ]))
                    refine o_nil (hQ.out _ _ ?_); clear hQ QQ
                    have f0 : w17.cell? ⟨w.heap.size, 0, none⟩ = some (.int .u64 (base : Int)) := by rw [KX.out.cell]; rfl
                    have f1 : w17.cell? ⟨w.heap.size, 1, none⟩ = some (.slice A3 n c3) := by rw [KX.out.cell]; rfl
                    have f2 : w17.cell? ⟨w.heap.size, 2, none⟩ = some (.slice A4 n c4) := by rw [KX.out.cell]; rfl
                    have f3 : w17.cell? ⟨w.heap.size, 3, none⟩ = some (.int .i64 (most : Int)) := by rw [KX.out.cell]; rfl
                    have f4 : w17.cell? ⟨w.heap.size, 4, none⟩ = some (.int .u64 (en : Int)) := by rw [KX.out.cell]; rfl
                    have f5 : w17.cell? ⟨w.heap.size, 5, none⟩ = some (.bool kn) := by rw [KX.out.cell]; rfl
                    go_wp2_with (refine stm_store (cs' := #[.int .u64 (base : Int), .slice A3 n c3, .slice A4 n c4, .int .i64 (most : Int), .int .u64 (en : Int), .bool kn]) KR.out rfl _ _ rfl rfl rfl (by simp) (by kernel_rfl) (by simp [Value.oneCell']) (by simp [setL]) ?_)
                    intro w21 hk hs
                    have OR1 := Sh.mk (own_kept O3.out fun k ho => hs.2.2 k (by rintro rfl; exact own_nt O3.out KR.out (by decide) ho))
                    have OR2 := Sh.mk (own_kept O4.out fun k ho => hs.2.2 k (by rintro rfl; exact own_nt O4.out KR.out (by decide) ho))
                    have BE := Sh.mk (BB.out.1.trans (hs.1.mono (Nat.le_succ _)))
                    have r0 : w21.cell? ⟨w.heap.size + 1, 0, none⟩ = some (.int .u64 (base : Int)) := by rw [hk.cell]; rfl
                    have r1 : w21.cell? ⟨w.heap.size + 1, 1, none⟩ = some (.slice A3 n c3) := by rw [hk.cell]; rfl
                    have r2 : w21.cell? ⟨w.heap.size + 1, 2, none⟩ = some (.slice A4 n c4) := by rw [hk.cell]; rfl
                    have r3 : w21.cell? ⟨w.heap.size + 1, 3, none⟩ = some (.int .i64 (most : Int)) := by rw [hk.cell]; rfl
                    have r4 : w21.cell? ⟨w.heap.size + 1, 4, none⟩ = some (.int .u64 (en : Int)) := by rw [hk.cell]; rfl
                    have r5 : w21.cell? ⟨w.heap.size + 1, 5, none⟩ = some (.bool kn) := by rw [hk.cell]; rfl
                    clear hs
                    go_wp2_with fail
                    refine bodyPost_ret (v := .tuple #[.agg #[.int .u64 (base : Int), .slice A3 n c3, .slice A4 n c4, .int .i64 (most : Int), .int .u64 (en : Int), .bool kn], .bool false]) (by simp [results, Try.results21, go_sem, r0, r1, r2, r3, r4, r5]) rfl ?_
                    exact XP.mk' ⟨base, en, kn, A3, A4, c3, c4, rfl, Nat.le_refl _, ⟨hl, yl, own_mono OR1.out HB1.out, (by unfold Nats; rw [HY3.out]; exact own_mono OR2.out HB1.out), HY3.out⟩⟩ BE.out
                  · have hq2' : ¬ (qw : Int) < (q2 : Int) := by omega
                    have hq2d : decide ((qw : Int) < (q2 : Int)) = false := decide_eq_false hq2'
                    (refine o_pure (v := ?_) (by rfl) (fun w' => ?_) ?_; rotate_left; (focus (go_simp; (try with_reducible rfl); (try (rw [if_pos (by omega)]; (try with_reducible rfl))))); (try simp only [Act.put, List.setIfInBounds_toArray, List.set_cons_zero, List.set_cons_succ]))
                    (refine o_pure (v := ?_) (by rfl) (fun w' => ?_) ?_; rotate_left; (focus (go_simp; (try with_reducible rfl); (try (rw [if_pos (by omega)]; (try with_reducible rfl))))); (try simp only [Act.put, List.setIfInBounds_toArray, List.set_cons_zero, List.set_cons_succ]))
                    (refine o_pure (v := ?_) (by rfl) (fun w' => ?_) ?_; rotate_left; (focus (go_simp; (try with_reducible rfl); (try (rw [if_pos (by omega)]; (try with_reducible rfl))))); (try simp only [Act.put, List.setIfInBounds_toArray, List.set_cons_zero, List.set_cons_succ]))
                    refine o_nil (hQ.out _ _ ?_); clear hQ QQ
                    have g0 : w17.cell? ⟨w.heap.size, 0, none⟩ = some (.int .u64 (base : Int)) := by rw [KX.out.cell]; rfl
                    have g1 : w17.cell? ⟨w.heap.size, 1, none⟩ = some (.slice A3 n c3) := by rw [KX.out.cell]; rfl
                    have g2 : w17.cell? ⟨w.heap.size, 2, none⟩ = some (.slice A4 n c4) := by rw [KX.out.cell]; rfl
                    have g3 : w17.cell? ⟨w.heap.size, 3, none⟩ = some (.int .i64 (most : Int)) := by rw [KX.out.cell]; rfl
                    have g4 : w17.cell? ⟨w.heap.size, 4, none⟩ = some (.int .u64 (en : Int)) := by rw [KX.out.cell]; rfl
                    have g5 : w17.cell? ⟨w.heap.size, 5, none⟩ = some (.bool kn) := by rw [KX.out.cell]; rfl
                    have z1 := KX.out.frozen 1
                    have z2 := KX.out.frozen 2
                    go_upto_region 34 with fail
                    have hsT : Solo (w.heap.size) w17 ((w17.setCell ⟨w.heap.size, 1, none⟩ (.slice A5 n c5)).setCell ⟨w.heap.size, 2, none⟩ (.slice A6 n c6)) := (Solo.refl.setCell _ _).setCell _ _
                    have hkT := (KX.out.set 1 (.slice A5 n c5)).set 2 (.slice A6 n c6)
                    have KXT : Sh (Blk ((w17.setCell ⟨w.heap.size, 1, none⟩ (.slice A5 n c5)).setCell ⟨w.heap.size, 2, none⟩ (.slice A6 n c6)) (w.heap.size) 38 #[.int .u64 (base : Int), .slice A5 n c5, .slice A6 n c6, .int .i64 (most : Int), .int .u64 (en : Int), .bool kn]) := ⟨by simpa using hkT⟩
                    have KRT := Sh.mk (hsT.blk KR.out (by omega))
                    obtain ⟨hn5, o5⟩ := O5.out
                    obtain ⟨yn6, o6, hy6⟩ := O6.out
                    have O5T := Sh.mk (own_kept o5 fun k ho => hsT.2.2 k (by rintro rfl; exact own_nt o5 KX.out (by decide) ho))
                    have O6T := Sh.mk (own_kept o6 fun k ho => hsT.2.2 k (by rintro rfl; exact own_nt o6 KX.out (by decide) ho))
                    have HY6 := Sh.mk hy6
                    have BBT := Sh.mk (BB.out.1.trans hsT.1)
                    clear hsT hkT KX KR O5 O6 O3 O4 BB o5 o6 hy6 g0 g1 g2 g3 g4 g5 z1 z2
                    generalize (w17.setCell ⟨w.heap.size, 1, none⟩ (.slice A5 n c5)).setCell ⟨w.heap.size, 2, none⟩ (.slice A6 n c6) = w20 at *
                    have f0 : w20.cell? ⟨w.heap.size, 0, none⟩ = some (.int .u64 (base : Int)) := by rw [KXT.out.cell]; rfl
                    have f1 : w20.cell? ⟨w.heap.size, 1, none⟩ = some (.slice A5 n c5) := by rw [KXT.out.cell]; rfl
                    have f2 : w20.cell? ⟨w.heap.size, 2, none⟩ = some (.slice A6 n c6) := by rw [KXT.out.cell]; rfl
                    have f3 : w20.cell? ⟨w.heap.size, 3, none⟩ = some (.int .i64 (most : Int)) := by rw [KXT.out.cell]; rfl
                    have f4 : w20.cell? ⟨w.heap.size, 4, none⟩ = some (.int .u64 (en : Int)) := by rw [KXT.out.cell]; rfl
                    have f5 : w20.cell? ⟨w.heap.size, 5, none⟩ = some (.bool kn) := by rw [KXT.out.cell]; rfl
                    go_wp2_with (refine stm_store (cs' := #[.int .u64 (base : Int), .slice A5 n c5, .slice A6 n c6, .int .i64 (most : Int), .int .u64 (en : Int), .bool kn]) KRT.out rfl _ _ rfl rfl rfl (by simp) (by kernel_rfl) (by simp [Value.oneCell']) (by simp [setL]) ?_)
                    intro w21 hk hs
                    have OR1 := Sh.mk (own_kept O5T.out fun k ho => hs.2.2 k (by rintro rfl; exact own_nt O5T.out KRT.out (by decide) ho))
                    have OR2 := Sh.mk (own_kept O6T.out fun k ho => hs.2.2 k (by rintro rfl; exact own_nt O6T.out KRT.out (by decide) ho))
                    have BE := Sh.mk (BBT.out.trans (hs.1.mono (Nat.le_succ _)))
                    have r0 : w21.cell? ⟨w.heap.size + 1, 0, none⟩ = some (.int .u64 (base : Int)) := by rw [hk.cell]; rfl
                    have r1 : w21.cell? ⟨w.heap.size + 1, 1, none⟩ = some (.slice A5 n c5) := by rw [hk.cell]; rfl
                    have r2 : w21.cell? ⟨w.heap.size + 1, 2, none⟩ = some (.slice A6 n c6) := by rw [hk.cell]; rfl
                    have r3 : w21.cell? ⟨w.heap.size + 1, 3, none⟩ = some (.int .i64 (most : Int)) := by rw [hk.cell]; rfl
                    have r4 : w21.cell? ⟨w.heap.size + 1, 4, none⟩ = some (.int .u64 (en : Int)) := by rw [hk.cell]; rfl
                    have r5 : w21.cell? ⟨w.heap.size + 1, 5, none⟩ = some (.bool kn) := by rw [hk.cell]; rfl
                    clear hs
                    go_wp2_with fail
                    refine bodyPost_ret (v := .tuple #[.agg #[.int .u64 (base : Int), .slice A5 n c5, .slice A6 n c6, .int .i64 (most : Int), .int .u64 (en : Int), .bool kn], .bool wh]) (by simp [results, Try.results21, go_sem, r0, r1, r2, r3, r4, r5]) rfl ?_
                    exact XP.mk' ⟨base, en, kn, A5, A6, c5, c6, rfl, Nat.le_refl _, ⟨hn5, yn6, own_mono OR1.out HB1.out, (by unfold Nats; rw [HY6.out]; exact own_mono OR2.out HB1.out), HY6.out⟩⟩ BE.out
                · have hq1' : ¬ (most : Int) < (q1 : Int) := by omega
                  have hq1d : decide ((most : Int) < (q1 : Int)) = false := decide_eq_false hq1'
                  have hq1e : decide (most < q1) = false := decide_eq_false hq1
                  (refine o_pure (v := ?_) (by rfl) (fun w' => ?_) ?_; rotate_left; (focus (go_simp; (try with_reducible rfl); (try (rw [if_pos (by omega)]; (try with_reducible rfl))))); (try simp only [Act.put, List.setIfInBounds_toArray, List.set_cons_zero, List.set_cons_succ]))
                  (refine o_pure (v := ?_) (by rfl) (fun w' => ?_) ?_; rotate_left; (focus (go_simp; (try with_reducible rfl); (try (rw [if_pos (by omega)]; (try with_reducible rfl))))); (try simp only [Act.put, List.setIfInBounds_toArray, List.set_cons_zero, List.set_cons_succ]))
                  (refine o_pure (v := ?_) (by rfl) (fun w' => ?_) ?_; rotate_left; (focus (go_simp; (try with_reducible rfl); (try (rw [if_pos (by omega)]; (try with_reducible rfl))))); (try simp only [Act.put, List.setIfInBounds_toArray, List.set_cons_zero, List.set_cons_succ]))
                  iterate 6 (first | (refine o_pass (by rfl) ?_; simp only [Act.put, List.setIfInBounds_toArray, List.set_cons_zero, List.set_cons_succ]) | (refine o_skip (by intro h; cases h) (by rfl) ?_; simp only [Act.put, List.setIfInBounds_toArray, List.set_cons_zero, List.set_cons_succ]))
                  (refine o_pure (v := ?_) (by rfl) (fun w' => ?_) ?_; rotate_left; (focus (go_simp; (try with_reducible rfl); (try (rw [if_pos (by omega)]; (try with_reducible rfl))))); (try simp only [Act.put, List.setIfInBounds_toArray, List.set_cons_zero, List.set_cons_succ]))
                  refine o_nil (hQ.out _ _ ?_); clear hQ QQ
                  have g0 : w16.cell? ⟨w.heap.size, 0, none⟩ = some (.int .u64 (base : Int)) := by rw [KX.out.cell]; rfl
                  have g1 : w16.cell? ⟨w.heap.size, 1, none⟩ = some (.slice A3 n c3) := by rw [KX.out.cell]; rfl
                  have g2 : w16.cell? ⟨w.heap.size, 2, none⟩ = some (.slice A4 n c4) := by rw [KX.out.cell]; rfl
                  have g3 : w16.cell? ⟨w.heap.size, 3, none⟩ = some (.int .i64 (most : Int)) := by rw [KX.out.cell]; rfl
                  have g4 : w16.cell? ⟨w.heap.size, 4, none⟩ = some (.int .u64 (en : Int)) := by rw [KX.out.cell]; rfl
                  have g5 : w16.cell? ⟨w.heap.size, 5, none⟩ = some (.bool kn) := by rw [KX.out.cell]; rfl
                  have z1 := KX.out.frozen 1
                  have z2 := KX.out.frozen 2
                  go_upto_region 34 with fail
                  have hsT : Solo (w.heap.size) w16 ((w16.setCell ⟨w.heap.size, 1, none⟩ (.slice A5 n c5)).setCell ⟨w.heap.size, 2, none⟩ (.slice A6 n c6)) := (Solo.refl.setCell _ _).setCell _ _
                  have hkT := (KX.out.set 1 (.slice A5 n c5)).set 2 (.slice A6 n c6)
                  have KXT : Sh (Blk ((w16.setCell ⟨w.heap.size, 1, none⟩ (.slice A5 n c5)).setCell ⟨w.heap.size, 2, none⟩ (.slice A6 n c6)) (w.heap.size) 38 #[.int .u64 (base : Int), .slice A5 n c5, .slice A6 n c6, .int .i64 (most : Int), .int .u64 (en : Int), .bool kn]) := ⟨by simpa using hkT⟩
                  have KRT := Sh.mk (hsT.blk KR.out (by omega))
                  obtain ⟨hn5, o5⟩ := O5.out
                  obtain ⟨yn6, o6, hy6⟩ := O6.out
                  have O5T := Sh.mk (own_kept o5 fun k ho => hsT.2.2 k (by rintro rfl; exact own_nt o5 KX.out (by decide) ho))
                  have O6T := Sh.mk (own_kept o6 fun k ho => hsT.2.2 k (by rintro rfl; exact own_nt o6 KX.out (by decide) ho))
                  have HY6 := Sh.mk hy6
                  have BBT := Sh.mk (BB.out.1.trans hsT.1)
                  clear hsT hkT KX KR O5 O6 O3 O4 BB o5 o6 hy6 g0 g1 g2 g3 g4 g5 z1 z2
                  generalize (w16.setCell ⟨w.heap.size, 1, none⟩ (.slice A5 n c5)).setCell ⟨w.heap.size, 2, none⟩ (.slice A6 n c6) = w20 at *
                  have f0 : w20.cell? ⟨w.heap.size, 0, none⟩ = some (.int .u64 (base : Int)) := by rw [KXT.out.cell]; rfl
                  have f1 : w20.cell? ⟨w.heap.size, 1, none⟩ = some (.slice A5 n c5) := by rw [KXT.out.cell]; rfl
                  have f2 : w20.cell? ⟨w.heap.size, 2, none⟩ = some (.slice A6 n c6) := by rw [KXT.out.cell]; rfl
                  have f3 : w20.cell? ⟨w.heap.size, 3, none⟩ = some (.int .i64 (most : Int)) := by rw [KXT.out.cell]; rfl
                  have f4 : w20.cell? ⟨w.heap.size, 4, none⟩ = some (.int .u64 (en : Int)) := by rw [KXT.out.cell]; rfl
                  have f5 : w20.cell? ⟨w.heap.size, 5, none⟩ = some (.bool kn) := by rw [KXT.out.cell]; rfl
                  go_wp2_with (refine stm_store (cs' := #[.int .u64 (base : Int), .slice A5 n c5, .slice A6 n c6, .int .i64 (most : Int), .int .u64 (en : Int), .bool kn]) KRT.out rfl _ _ rfl rfl rfl (by simp) (by kernel_rfl) (by simp [Value.oneCell']) (by simp [setL]) ?_)
                  intro w21 hk hs
                  have OR1 := Sh.mk (own_kept O5T.out fun k ho => hs.2.2 k (by rintro rfl; exact own_nt O5T.out KRT.out (by decide) ho))
                  have OR2 := Sh.mk (own_kept O6T.out fun k ho => hs.2.2 k (by rintro rfl; exact own_nt O6T.out KRT.out (by decide) ho))
                  have BE := Sh.mk (BBT.out.trans (hs.1.mono (Nat.le_succ _)))
                  have r0 : w21.cell? ⟨w.heap.size + 1, 0, none⟩ = some (.int .u64 (base : Int)) := by rw [hk.cell]; rfl
                  have r1 : w21.cell? ⟨w.heap.size + 1, 1, none⟩ = some (.slice A5 n c5) := by rw [hk.cell]; rfl
                  have r2 : w21.cell? ⟨w.heap.size + 1, 2, none⟩ = some (.slice A6 n c6) := by rw [hk.cell]; rfl
                  have r3 : w21.cell? ⟨w.heap.size + 1, 3, none⟩ = some (.int .i64 (most : Int)) := by rw [hk.cell]; rfl
                  have r4 : w21.cell? ⟨w.heap.size + 1, 4, none⟩ = some (.int .u64 (en : Int)) := by rw [hk.cell]; rfl
                  have r5 : w21.cell? ⟨w.heap.size + 1, 5, none⟩ = some (.bool kn) := by rw [hk.cell]; rfl
                  clear hs
                  go_wp2_with fail
                  refine bodyPost_ret (v := .tuple #[.agg #[.int .u64 (base : Int), .slice A5 n c5, .slice A6 n c6, .int .i64 (most : Int), .int .u64 (en : Int), .bool kn], .bool wh]) (by simp [results, Try.results21, go_sem, r0, r1, r2, r3, r4, r5]) rfl ?_
                  exact XP.mk' ⟨base, en, kn, A5, A6, c5, c6, rfl, Nat.le_refl _, ⟨hn5, yn6, own_mono OR1.out HB1.out, (by unfold Nats; rw [HY6.out]; exact own_mono OR2.out HB1.out), HY6.out⟩⟩ BE.out
              · have hgt' : ¬ (nx : Int) < (lst : Int) := by omega
                have g0 : wr.cell? ⟨w.heap.size, 0, none⟩ = some (.int .u64 (base : Int)) := by rw [KX.out.cell]; rfl
                have g1 : wr.cell? ⟨w.heap.size, 1, none⟩ = some (.slice A3 n c3) := by rw [KX.out.cell]; rfl
                have g2 : wr.cell? ⟨w.heap.size, 2, none⟩ = some (.slice A4 n c4) := by rw [KX.out.cell]; rfl
                have g3 : wr.cell? ⟨w.heap.size, 3, none⟩ = some (.int .i64 (most : Int)) := by rw [KX.out.cell]; rfl
                have g4 : wr.cell? ⟨w.heap.size, 4, none⟩ = some (.int .u64 (en : Int)) := by rw [KX.out.cell]; rfl
                have g5 : wr.cell? ⟨w.heap.size, 5, none⟩ = some (.bool kn) := by rw [KX.out.cell]; rfl
                have z1 := KX.out.frozen 1
                have z2 := KX.out.frozen 2
                go_upto_region 34 with fail
                have hsT : Solo (w.heap.size) wr ((wr.setCell ⟨w.heap.size, 1, none⟩ (.slice A5 n c5)).setCell ⟨w.heap.size, 2, none⟩ (.slice A6 n c6)) := (Solo.refl.setCell _ _).setCell _ _
                have hkT := (KX.out.set 1 (.slice A5 n c5)).set 2 (.slice A6 n c6)
                have KXT : Sh (Blk ((wr.setCell ⟨w.heap.size, 1, none⟩ (.slice A5 n c5)).setCell ⟨w.heap.size, 2, none⟩ (.slice A6 n c6)) (w.heap.size) 38 #[.int .u64 (base : Int), .slice A5 n c5, .slice A6 n c6, .int .i64 (most : Int), .int .u64 (en : Int), .bool kn]) := ⟨by simpa using hkT⟩
                have KRT := Sh.mk (hsT.blk KR.out (by omega))
                obtain ⟨hn5, o5⟩ := O5.out
                obtain ⟨yn6, o6, hy6⟩ := O6.out
                have O5T := Sh.mk (own_kept o5 fun k ho => hsT.2.2 k (by rintro rfl; exact own_nt o5 KX.out (by decide) ho))
                have O6T := Sh.mk (own_kept o6 fun k ho => hsT.2.2 k (by rintro rfl; exact own_nt o6 KX.out (by decide) ho))
                have HY6 := Sh.mk hy6
                have BBT := Sh.mk (BB.out.1.trans hsT.1)
                clear hsT hkT KX KR O5 O6 O3 O4 BB o5 o6 hy6 g0 g1 g2 g3 g4 g5 z1 z2
                generalize (wr.setCell ⟨w.heap.size, 1, none⟩ (.slice A5 n c5)).setCell ⟨w.heap.size, 2, none⟩ (.slice A6 n c6) = w20 at *
                have f0 : w20.cell? ⟨w.heap.size, 0, none⟩ = some (.int .u64 (base : Int)) := by rw [KXT.out.cell]; rfl
                have f1 : w20.cell? ⟨w.heap.size, 1, none⟩ = some (.slice A5 n c5) := by rw [KXT.out.cell]; rfl
                have f2 : w20.cell? ⟨w.heap.size, 2, none⟩ = some (.slice A6 n c6) := by rw [KXT.out.cell]; rfl
                have f3 : w20.cell? ⟨w.heap.size, 3, none⟩ = some (.int .i64 (most : Int)) := by rw [KXT.out.cell]; rfl
                have f4 : w20.cell? ⟨w.heap.size, 4, none⟩ = some (.int .u64 (en : Int)) := by rw [KXT.out.cell]; rfl
                have f5 : w20.cell? ⟨w.heap.size, 5, none⟩ = some (.bool kn) := by rw [KXT.out.cell]; rfl
                go_wp2_with (refine stm_store (cs' := #[.int .u64 (base : Int), .slice A5 n c5, .slice A6 n c6, .int .i64 (most : Int), .int .u64 (en : Int), .bool kn]) KRT.out rfl _ _ rfl rfl rfl (by simp) (by kernel_rfl) (by simp [Value.oneCell']) (by simp [setL]) ?_)
                intro w21 hk hs
                have OR1 := Sh.mk (own_kept O5T.out fun k ho => hs.2.2 k (by rintro rfl; exact own_nt O5T.out KRT.out (by decide) ho))
                have OR2 := Sh.mk (own_kept O6T.out fun k ho => hs.2.2 k (by rintro rfl; exact own_nt O6T.out KRT.out (by decide) ho))
                have BE := Sh.mk (BBT.out.trans (hs.1.mono (Nat.le_succ _)))
                have r0 : w21.cell? ⟨w.heap.size + 1, 0, none⟩ = some (.int .u64 (base : Int)) := by rw [hk.cell]; rfl
                have r1 : w21.cell? ⟨w.heap.size + 1, 1, none⟩ = some (.slice A5 n c5) := by rw [hk.cell]; rfl
                have r2 : w21.cell? ⟨w.heap.size + 1, 2, none⟩ = some (.slice A6 n c6) := by rw [hk.cell]; rfl
                have r3 : w21.cell? ⟨w.heap.size + 1, 3, none⟩ = some (.int .i64 (most : Int)) := by rw [hk.cell]; rfl
                have r4 : w21.cell? ⟨w.heap.size + 1, 4, none⟩ = some (.int .u64 (en : Int)) := by rw [hk.cell]; rfl
                have r5 : w21.cell? ⟨w.heap.size + 1, 5, none⟩ = some (.bool kn) := by rw [hk.cell]; rfl
                clear hs
                go_wp2_with fail
                refine bodyPost_ret (v := .tuple #[.agg #[.int .u64 (base : Int), .slice A5 n c5, .slice A6 n c6, .int .i64 (most : Int), .int .u64 (en : Int), .bool kn], .bool wh]) (by simp [results, Try.results21, go_sem, r0, r1, r2, r3, r4, r5]) rfl ?_
                exact XP.mk' ⟨base, en, kn, A5, A6, c5, c6, rfl, Nat.le_refl _, ⟨hn5, yn6, own_mono OR1.out HB1.out, (by unfold Nats; rw [HY6.out]; exact own_mono OR2.out HB1.out), HY6.out⟩⟩ BE.out


end Go.Proofs.Ytnngjbieoakanaa
