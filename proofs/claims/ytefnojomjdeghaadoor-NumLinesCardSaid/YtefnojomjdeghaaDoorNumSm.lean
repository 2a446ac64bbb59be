/- The reference's Same, Line. -/
import Derived.Test.YtefnojomjdeghaaDoorNumRp
namespace Go.Proofs.YtefnojomjdeghaaDoor
open Go.RowKit
set_option linter.unusedVariables false
set_option maxRecDepth 20000 in
theorem same_any (A1 A2 : Option Addr) (n c1 c2 : Nat) (l : List ByteArray) (w : World) (h1 : Rd w w.heap.size 1 A1 n (ss l)) (h2 : Rd w w.heap.size 1 A2 n (ss l)) (hc1 : n ≤ c1) (hc2 : n ≤ c2) (hn : n ≤ 1000000) :
    Calls Tryd.prog 18 #[.slice A1 n c1, .slice A2 n c2] w fun e w' => e = .returned (.bool true) ∧ ∃ k, w' = w.drewN k := by
  have H1 := Lib.hid h1
  have H2 := Lib.hid h2
  clear h1 h2
  go_enter Tryd.func18, Tryd.ntmps18
  go_wp2_with fail
  go_loopw [5] (fun iv wr => ∃ (i k : Nat), i ≤ n ∧ iv = .int .i64 i ∧ Hid (wr = w.drewN k)) (fun iv _ => n - (intOf iv).toNat)
  case atStart => exact ⟨0, 0, by omega, rfl, Lib.hid rfl⟩
  case round =>
    obtain ⟨i, k, hi, rfl, hw⟩ := hrel
    by_cases hlt : i < n
    · obtain ⟨b1, o1, x1, rfl, hb1, hcell1, hx1⟩ := H1.out.str hlt
      obtain ⟨b2, o2, x2, rfl, hb2, hcell2, hx2⟩ := H2.out.str hlt
      obtain rfl : x1 = x2 := Option.some.inj (hx1.out.symm.trans hx2.out)
      have hc1' : wr.cell? ⟨b1, o1 + i, none⟩ = some (.string x1) := by rw [hw.out]; exact hcell1
      have hc2' : wr.cell? ⟨b2, o2 + i, none⟩ = some (.string x1) := by rw [hw.out]; exact hcell2
      have hself := beq_self_eq_true x1.toList
      have h0 : (0 : Int) ≤ (i : Int) := by omega
      have hl' : (i : Int) < (n : Int) := by omega
      clear hcell1 hcell2 hx1 hx2
      go_wp2_with fail
      go_quiet (fail)
      go_wp2
      go_roundw
      case rel => exact ⟨i + 1, _, by omega, by go_num, Lib.hid (by rw [hw.out]; exact World.drewN_drewN _ _ _)⟩
      case measure => simp [intOf]; omega
    · have hge : (n : Int) ≤ (i : Int) := by omega
      go_wp2_with fail
      go_ret
      exact ⟨rfl, k, hw.out⟩
set_option maxHeartbeats 1000000 in
set_option maxRecDepth 20000 in
theorem rline_any (A : Option Addr) (n c : Nat) (l : List ByteArray) (w : World) (hr : Rd w w.heap.size 1 A n (ss l)) (hn : n ≤ 1000) (hb : ∀ x ∈ l, x.size ≤ 100000) :
    Calls Tryd.prog 17 #[.slice A n c] w fun e w' => e = .returned (.string ⟨(lineU l).toArray⟩) ∧ w' = w := by
  have HR := Lib.hid hr
  have HB := Lib.hid hb
  have HL := Lib.hid hr.strLen
  clear hr hb
  go_enter Tryd.func17, Tryd.ntmps17
  go_wp2_with fail
  go_loopw [3, 4] (fun ov iv wr => ∃ (i : Nat) (o : ByteArray), i ≤ n ∧ iv = .int .i64 i ∧ ov = .string o ∧ o.size ≤ 100001 * i ∧ Hid (o.data.toList = (l.take i).foldl jn []) ∧ wr = w) (fun _ iv _ => n - (intOf iv).toNat)
  case atStart => exact ⟨0, ByteArray.empty, by omega, rfl, rfl, by decide, Lib.hid rfl, rfl⟩
  case round =>
    obtain ⟨i, o, hi, rfl, rfl, hos, HO, rfl⟩ := hrel
    by_cases hlt : i < n
    · obtain ⟨b, off, x, rfl, hbb, hc, hx⟩ := HR.out.str hlt
      have hx' : x.size ≤ 100000 := HB.out x (List.mem_of_getElem? hx.out)
      have htk : (l.take (i + 1)).foldl jn [] = jn o.data.toList x := by
        rw [nth_take hx, List.foldl_append, ← HO.out]
        rfl
      have HT := Lib.hid htk
      have hl' : (i : Int) < (n : Int) := by omega
      clear htk
      have hos2 : o.data.toList.length = o.size := Array.length_toList
      by_cases hx0 : x.size = 0
      · have g1 := empty_of hx0
        have hd : (o ++ x).data.toList = jn o.data.toList x := by
          unfold jn
          rw [if_pos hx0]
          have : x.data.toList = [] := List.eq_nil_of_length_eq_zero (by rw [Array.length_toList]; exact hx0)
          simp [this]
        have hsum : ¬ 9223372036854775807 < o.size + x.size := by omega
        have hsz : (o ++ x).size ≤ 100001 * (i + 1) := by rw [ByteArray.size_append]; omega
        have HD := Lib.hid hd
        have HSZ := Lib.hid hsz
        clear hd hsz hx0 hos2
        go_wp2_with fail
        go_roundw
        case rel => exact ⟨i + 1, o ++ x, by omega, by go_num, rfl, HSZ.out, Lib.hid (HD.out.trans HT.out.symm), trivial⟩
        case measure => simp [intOf]; omega
      have g1 := full_of hx0
      by_cases ho0 : o.size = 0
      · have g2 := empty_of ho0
        have hd : (o ++ x).data.toList = jn o.data.toList x := by
          have : o.data.toList = [] := List.eq_nil_of_length_eq_zero (by rw [Array.length_toList]; exact ho0)
          unfold jn
          rw [if_neg hx0, if_pos this]
          simp [this]
        have hsum : ¬ 9223372036854775807 < o.size + x.size := by omega
        have hsz : (o ++ x).size ≤ 100001 * (i + 1) := by rw [ByteArray.size_append]; omega
        have HD := Lib.hid hd
        have HSZ := Lib.hid hsz
        clear hd hsz hx0 hos2 ho0
        go_wp2_with fail
        go_roundw
        case rel => exact ⟨i + 1, o ++ x, by omega, by go_num, rfl, HSZ.out, Lib.hid (HD.out.trans HT.out.symm), trivial⟩
        case measure => simp [intOf]; omega
      · have g2 := full_of ho0
        have hd : (o ++ ⟨#[32]⟩ ++ x).data.toList = jn o.data.toList x := by
          have : o.data.toList ≠ [] := by intro h; rw [h] at hos2; exact ho0 hos2.symm
          unfold jn
          rw [if_neg hx0, if_neg this]
          simp
        have hsum1 : ¬ 9223372036854775807 < o.size + (⟨#[32]⟩ : ByteArray).size := by
          show ¬ 9223372036854775807 < o.size + 1
          omega
        have hsz1 : (o ++ (⟨#[32]⟩ : ByteArray)).size = o.size + 1 := by rw [ByteArray.size_append]; rfl
        have hsum : ¬ 9223372036854775807 < (o ++ (⟨#[32]⟩ : ByteArray)).size + x.size := by omega
        have hsum2 : ¬ 9223372036854775807 < o.size + 1 + x.size := by omega
        have hsum3 : ¬ 9223372036854775807 < o.size + 1 := by omega
        have hsz : (o ++ (⟨#[32]⟩ : ByteArray) ++ x).size ≤ 100001 * (i + 1) := by rw [ByteArray.size_append, hsz1]; omega
        have HD := Lib.hid hd
        have HSZ := Lib.hid hsz
        have HSZ1 := Lib.hid hsz1
        clear hd hsz hx0 hos2 ho0 hsz1
        go_wp2_with fail
        go_roundw
        case rel => exact ⟨i + 1, o ++ ⟨#[32]⟩ ++ x, by omega, by go_num, rfl, HSZ.out, Lib.hid (HD.out.trans HT.out.symm), trivial⟩
        case measure => simp [intOf]; omega
    · have hge : (n : Int) ≤ (i : Int) := by omega
      have h1 : l.take i = l := List.take_of_length_le (by rw [HL.out]; omega)
      have h2 := HO.out
      rw [h1] at h2
      have H3 := Lib.hid h2
      clear h1 h2
      go_wp2_with fail
      go_ret
      refine ⟨?_, rfl⟩
      unfold lineU
      rw [← H3.out]
      rfl
end Go.Proofs.YtefnojomjdeghaaDoor
