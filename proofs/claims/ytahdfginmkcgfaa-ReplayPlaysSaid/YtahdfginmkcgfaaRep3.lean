/- Contracts of a window's Top and Missing, and of the reference of layer 41. -/
import Derived.Test.YtahdfginmkcgfaaRep2
import Derived.Deep.QuietTactic
import Derived.Deep.RegionWith
namespace Go.Proofs.Ytahdfginmkcgfaa
open Go.RowKit
set_option linter.unusedVariables false

def topL (r : List Nat) : Nat := r.foldl max 0
theorem topL_snoc (r : List Nat) (x : Nat) : topL (r ++ [x]) = max (topL r) x := by simp [topL]
theorem topL_take {r : List Nat} {j x : Nat} (h : r[j]? = some x) : topL (r.take (j + 1)) = max (topL (r.take j)) x := by
  rw [List.take_add_one, h]
  exact topL_snoc _ _
theorem foldl_max (r : List Nat) : ∀ a, a ≤ r.foldl max a ∧ (∀ m ∈ r, m ≤ r.foldl max a) ∧ (r.foldl max a = a ∨ r.foldl max a ∈ r) := by
  induction r with
  | nil => simp
  | cons y r ih =>
    intro a
    obtain ⟨h1, h2, h3⟩ := ih (max a y)
    simp only [List.foldl_cons]
    refine ⟨by omega, fun m hm => ?_, ?_⟩
    · rcases List.mem_cons.1 hm with rfl | hm
      · omega
      · exact h2 m hm
    · rcases h3 with h3 | h3
      · rcases Nat.le_total a y with h | h
        · right
          rw [h3, Nat.max_eq_right h]
          simp
        · left
          rw [h3, Nat.max_eq_left h]
      · right
        simp [h3]
theorem Came.topL {r : List Nat} {top : Nat} {cw : List Nat} (h : Came r top cw) : topL r = top := by
  obtain ⟨_, h2, h3⟩ := foldl_max r 0
  obtain ⟨_, ha, hb, hc, _⟩ := h
  by_cases hr : r = []
  · subst hr
    rw [hc rfl]
    rfl
  · have h4 := h2 _ (hb hr)
    unfold Go.Proofs.Ytahdfginmkcgfaa.topL
    rcases h3 with h3 | h3
    · omega
    · have := ha _ h3
      omega
/-- Is a number there? (A name: the walk is not to take it apart.) -/
def hasL (r : List Nat) (x : Nat) : Bool := r.contains x
def freshL (r : List Nat) (x : Nat) : Bool := decide (r = []) || (decide (topL r < x) || (decide (topL r - x < 256) && !hasL r x))
theorem Came.freshL {r : List Nat} {top x : Nat} {cw : List Nat} (h : Came r top cw) : freshB top cw x = freshL r x := by
  unfold Go.Proofs.Ytahdfginmkcgfaa.freshL
  rw [h.topL]
  by_cases hr : r = []
  · subst hr
    rw [h.none]
    rfl
  · rw [Bool.eq_iff_iff, h.fresh]
    simp [hr, hasL]
theorem cnt_tail (f : Nat → Bool) (m : Nat) (h : ∀ i, m ≤ i → f i = false) : ∀ k, cnt f (m + k) = cnt f m
  | 0 => rfl
  | k + 1 => by
    rw [← Nat.add_assoc]
    simp only [cnt]
    rw [cnt_tail f m h k, h (m + k) (by omega)]
    rfl
theorem kept_all (r : List Nat) (t : Nat) : cnt (kept r t) (min 256 (t + 1)) = cnt (kept r t) 256 := by
  rcases Nat.le_total 256 (t + 1) with h | h
  · rw [Nat.min_eq_left h]
  · rw [Nat.min_eq_right h]
    have := cnt_tail (kept r t) (t + 1) (fun i hi => by unfold kept; rw [decide_eq_false (by omega)]; rfl) (256 - (t + 1))
    rw [show t + 1 + (256 - (t + 1)) = 256 by omega] at this
    exact this.symm
def missL (r : List Nat) : Nat := if r = [] then 0 else min 256 (topL r + 1) - cnt (kept r (topL r)) 256
theorem begun_bit {r : List Nat} {top : Nat} {cw : List Nat} (h : Came r top cw) : bitp cw (top % 256) = decide (0 < r.length) := by
  rw [Bool.eq_iff_iff, h.mem (Nat.le_refl _) (by omega), decide_eq_true_iff]
  constructor
  · intro hm
    exact List.length_pos_of_mem hm
  · intro hl
    exact h.2.2.1 (by intro e; rw [e] at hl; simp at hl)
theorem msum_cnt (cw : List Nat) : msum cw 4 = cnt (bitp cw) 256 := by
  rw [cnt_words]
  simp only [msum]
  omega
set_option maxRecDepth 20000 in
theorem wtop_any (g top : Nat) (r cw : List Nat) (w : World) (hw : Win w g top cw) (hc : Came r top cw) (ht : top < 18446744073709551616) :
    Calls Try.prog 32 #[.pointer (some ⟨g, 0, none⟩)] w fun e w' => e = .returned (.tuple #[.int .u64 (top : Nat), .bool (decide (0 < r.length))]) ∧ ∃ q, w' = w.drewN q := by
  have hf := hw.first
  have HB := Lib.hid (begun_bit hc)
  have HW := Lib.hid hw
  have HC := Lib.hid hc
  clear hw hc
  go_enter Try.func32, Try.ntmps32
  go_wp2_with fail
  go_quiet ((go_at_call 50; refine Calls.quiet_of_same (begun_any g top cw _ HW.out HC.out.1 ht)))
  go_wp2
  go_ret2
  refine ⟨?_, _, rfl⟩
  rw [← HB.out]
  rfl
set_option maxRecDepth 20000 in
theorem missing_any (g top : Nat) (r cw : List Nat) (w : World) (hw : Win w g top cw) (hc : Came r top cw) (ht : top < 18446744073709551616) :
    Calls Try.prog 36 #[.pointer (some ⟨g, 0, none⟩)] w fun e w' => e = .returned (.int .i64 ((missL r : Nat) : Int)) ∧ w' = w := by
  have hf := hw.first
  have hm := cnt_le (kept r top) 256
  have hk : (if r = [] then 0 else min 256 (top + 1) - cnt (kept r top) 256) = missL r := by unfold missL; rw [hc.topL]
  have hle : cnt (kept r top) 256 ≤ min 256 (top + 1) := by rw [← kept_all]; exact cnt_le _ _
  have hms : msum cw 4 = cnt (kept r top) 256 := by rw [msum_cnt, hc.count]
  have HB := Lib.hid (begun_bit hc)
  have HK := Lib.hid hk; have HL := Lib.hid hle; have HS := Lib.hid hms
  have HW := Lib.hid hw
  have HC := Lib.hid hc
  clear hw hc hk hle hms
  by_cases hr : r = []
  · subst hr
    have HB : Hid (bitp cw (top % 256) = false) := HB
    go_enter Try.func36, Try.ntmps36
    go_wp2_with fail
    refine (begun_any g top cw w HW.out HC.out.1 ht).mono ?_
    rintro e w1 ⟨rfl, rfl⟩
    rw [HB.out]
    go_wp2_with fail
    go_ret
    exact ⟨rfl, rfl⟩
  · have HB : Hid (bitp cw (top % 256) = true) := by
      rw [decide_eq_true (List.length_pos_iff.2 hr)] at HB
      exact HB
    rw [if_neg hr] at HK
    obtain ⟨mc, hmc⟩ : ∃ mc, mc = cnt (kept r top) 256 := ⟨_, rfl⟩
    rw [← hmc] at HK HL HS hm
    clear hmc hr
    by_cases ht2 : top ≤ 255
    · have e1 : min 256 (top + 1) = top + 1 := by omega
      rw [e1] at HK HL
      have hle := HL.out
      go_enter Try.func36, Try.ntmps36
      go_wp2_with fail
      refine (begun_any g top cw w HW.out HC.out.1 ht).mono ?_
      rintro e w1 ⟨rfl, rfl⟩
      rw [HB.out]
      go_wp2_with fail
      refine (many_any g top cw w1 HW.out HC.out.1).mono ?_
      rintro e w2 ⟨rfl, rfl⟩
      rw [HS.out]
      go_wp2_with fail
      go_ret
      exact ⟨ret_int (by rw [← HK.out]; omega), rfl⟩
    · have e1 : min 256 (top + 1) = 256 := by omega
      rw [e1] at HK HL
      have hle := HL.out
      have h255 : 255 ≤ top := by omega
      go_enter Try.func36, Try.ntmps36
      go_wp2_with fail
      refine (begun_any g top cw w HW.out HC.out.1 ht).mono ?_
      rintro e w1 ⟨rfl, rfl⟩
      rw [HB.out]
      go_wp2_with fail
      refine (many_any g top cw w1 HW.out HC.out.1).mono ?_
      rintro e w2 ⟨rfl, rfl⟩
      rw [HS.out]
      go_wp2_with fail
      go_ret
      exact ⟨ret_int (by rw [← HK.out]; omega), rfl⟩
set_option maxRecDepth 20000 in
theorem rtop_any (A : Option Addr) (n c B : Nat) (r : List Nat) (w : World) (hr : Rd w B 1 A n (ns .u64 r)) (hnc : n ≤ c) (hn : n ≤ 1000) :
    Calls Try.prog 45 #[.slice A n c] w fun e w' => e = .returned (.tuple #[.int .u64 ((topL r : Nat) : Int), .bool (decide (0 < n))]) ∧ w' = w := by
  have HR := Lib.hid hr
  have HLn := Lib.hid hr.natLen
  clear hr
  go_enter Try.func45, Try.ntmps45
  go_wp2_with fail
  go_loopw [4, 5] (fun tv iv wv => ∃ j : Nat, j ≤ n ∧ iv = .int .i64 j ∧ tv = .int .u64 ((topL (r.take j) : Nat) : Int) ∧ wv = w) (fun _ iv _ => n - (intOf iv).toNat)
  case atStart => exact ⟨0, Nat.zero_le _, rfl, rfl, rfl⟩
  case round =>
    obtain ⟨j, hj, rfl, rfl, rfl⟩ := hrel
    by_cases hlt : j < n
    · obtain ⟨b, off, x, rfl, _, hc, hx⟩ := HR.out.nth hlt
      have HT := Lib.hid (topL_take hx.out)
      obtain ⟨t0, h0⟩ : ∃ t0, t0 = topL (r.take j) := ⟨_, rfl⟩
      rw [← h0] at HT
      rw [← h0]
      clear h0
      by_cases hg : t0 < x
      · go_wp2
        go_roundw
        case rel => exact ⟨j + 1, by omega, by go_num, by rw [HT.out, Nat.max_eq_right (by omega)], by trivial⟩
        case measure => simp [intOf]; omega
      · go_wp2
        go_roundw
        case rel => exact ⟨j + 1, by omega, by go_num, by rw [HT.out, Nat.max_eq_left (by omega)], by trivial⟩
        case measure => simp [intOf]; omega
    · obtain rfl : j = n := by omega
      go_wp2
      go_ret2
      refine ⟨?_, rfl⟩
      show Ending.returned (.tuple #[.int .u64 ((topL (r.take j) : Nat) : Int), _]) = _
      rw [List.take_of_length_le (Nat.le_of_eq HLn.out)]
      simp
set_option maxRecDepth 20000 in
theorem rTop_any (A : Option Addr) (n c B : Nat) (r : List Nat) (w : World) (hr : Rd w B 1 A n (ns .u64 r)) (hnc : n ≤ c) (hn : n ≤ 1000) :
    Calls Try.prog 33 #[.slice A n c] w fun e w' => e = .returned (.tuple #[.int .u64 ((topL r : Nat) : Int), .bool (decide (0 < n))]) ∧ w' = w := by
  have HR := Lib.hid hr
  clear hr
  go_enter Try.func33, Try.ntmps33
  go_wp2_with fail
  refine (rtop_any A n c B r w HR.out hnc hn).mono ?_
  rintro e w1 ⟨rfl, rfl⟩
  go_wp2_with fail
  go_ret2
  exact ⟨rfl, rfl⟩
set_option maxRecDepth 20000 in
theorem rhas_any (A : Option Addr) (n c B x : Nat) (r : List Nat) (w : World) (hr : Rd w B 1 A n (ns .u64 r)) (hnc : n ≤ c) (hn : n ≤ 1000) :
    Calls Try.prog 46 #[.slice A n c, .int .u64 x] w fun e w' => e = .returned (.bool (hasL r x)) ∧ w' = w := by
  have HR := Lib.hid hr
  have HLn := Lib.hid hr.natLen
  clear hr
  go_enter Try.func46, Try.ntmps46
  go_wp2_with fail
  go_loopw [5] (fun iv wv => ∃ j : Nat, j ≤ n ∧ iv = .int .i64 j ∧ Hid (x ∉ r.take j) ∧ wv = w) (fun iv _ => n - (intOf iv).toNat)
  case atStart => exact ⟨0, Nat.zero_le _, rfl, Lib.hid (by simp), rfl⟩
  case round =>
    obtain ⟨j, hj, rfl, hni, rfl⟩ := hrel
    by_cases hlt : j < n
    · obtain ⟨b, off, y, rfl, _, hc, hy⟩ := HR.out.nth hlt
      by_cases hg : y = x
      · subst hg
        go_wp2
        go_ret
        exact ⟨ret_bool (by unfold hasL; rw [eq_comm, List.contains_iff_mem]; exact nth_mem hy), rfl⟩
      · have h1 : ¬ ((y : Nat) : Int) = ((x : Nat) : Int) := by omega
        have h2 : Hid (x ∉ r.take (j + 1)) := Lib.hid (by
          rw [List.take_add_one, hy.out]
          intro hm
          rcases List.mem_append.1 hm with hm | hm
          · exact hni.out hm
          · simp at hm
            exact hg hm.symm)
        go_wp2
        go_roundw
        case rel => exact ⟨j + 1, by omega, by go_num, h2, by trivial⟩
        case measure => simp [intOf]; omega
    · obtain rfl : j = n := by omega
      go_wp2
      go_ret
      have h := hni.out
      rw [List.take_of_length_le (Nat.le_of_eq HLn.out)] at h
      exact ⟨ret_bool (by unfold hasL; rw [eq_comm, ← Bool.not_eq_true, List.contains_iff_mem]; exact h), rfl⟩
set_option maxRecDepth 20000 in
theorem rfresh_any (A : Option Addr) (n c B x : Nat) (r : List Nat) (w : World) (hr : Rd w B 1 A n (ns .u64 r)) (hnc : n ≤ c) (hn : n ≤ 1000) (hx : x < 18446744073709551616) (ht : topL r < 18446744073709551616) :
    Calls Try.prog 29 #[.slice A n c, .int .u64 x] w fun e w' => e = .returned (.bool (freshL r x)) ∧ w' = w := by
  have HR := Lib.hid hr
  have HLn := Lib.hid hr.natLen
  have HF : Hid (freshL r x = (decide (r = []) || (decide (topL r < x) || (decide (topL r - x < 256) && !hasL r x)))) := Lib.hid rfl
  obtain ⟨t, h0⟩ : ∃ t, t = topL r := ⟨_, rfl⟩
  have HT := Lib.hid h0
  rw [← h0] at HF ht
  clear hr h0
  by_cases hn0 : n = 0
  · subst hn0
    have hr0 : r = [] := List.eq_nil_of_length_eq_zero HLn.out
    have HF2 : Hid (freshL r x = true) := Lib.hid (by rw [HF.out, decide_eq_true hr0]; rfl)
    clear hr0
    go_enter Try.func29, Try.ntmps29
    go_wp2_with fail
    refine (rtop_any A 0 c B r w HR.out hnc hn).mono ?_
    rintro e w1 ⟨rfl, rfl⟩
    rw [← HT.out]
    go_wp2_with fail
    go_ret
    exact ⟨ret_bool HF2.out.symm, rfl⟩
  · have hr0 : r ≠ [] := by
      intro e
      have := HLn.out
      rw [e] at this
      exact hn0 this.symm
    have hpos : 0 < n := by omega
    rw [decide_eq_false hr0, Bool.false_or] at HF
    clear hr0
    by_cases h1 : t < x
    · rw [decide_eq_true h1, Bool.true_or] at HF
      go_enter Try.func29, Try.ntmps29
      go_wp2_with fail
      refine (rtop_any A n c B r w HR.out hnc hn).mono ?_
      rintro e w1 ⟨rfl, rfl⟩
      rw [← HT.out, decide_eq_true hpos]
      go_wp2_with fail
      go_ret
      exact ⟨ret_bool HF.out.symm, rfl⟩
    · rw [decide_eq_false h1, Bool.false_or] at HF
      by_cases h2 : t - x < 256
      · rw [decide_eq_true h2, Bool.true_and] at HF
        have h3 : (t : Int) - (x : Int) < 256 := by omega
        go_enter Try.func29, Try.ntmps29
        go_wp2_with fail
        refine (rtop_any A n c B r w HR.out hnc hn).mono ?_
        rintro e w1 ⟨rfl, rfl⟩
        rw [← HT.out, decide_eq_true hpos]
        go_wp2_with fail
        refine (rhas_any A n c B x r w1 HR.out hnc hn).mono ?_
        rintro e w2 ⟨rfl, rfl⟩
        go_wp2_with fail
        go_ret
        exact ⟨ret_bool HF.out.symm, rfl⟩
      · rw [decide_eq_false h2, Bool.false_and] at HF
        have h3 : 256 ≤ (t : Int) - (x : Int) := by omega
        go_enter Try.func29, Try.ntmps29
        go_wp2_with fail
        refine (rtop_any A n c B r w HR.out hnc hn).mono ?_
        rintro e w1 ⟨rfl, rfl⟩
        rw [← HT.out, decide_eq_true hpos]
        go_wp2_with fail
        go_ret
        exact ⟨ret_bool HF.out.symm, rfl⟩
set_option maxRecDepth 20000 in
theorem rmany_any (A : Option Addr) (n c B : Nat) (r : List Nat) (w : World) (hr : Rd w B 1 A n (ns .u64 r)) (hnc : n ≤ c) (hn : n ≤ 1000) (ht : topL r < 18446744073709551616) :
    Calls Try.prog 34 #[.slice A n c] w fun e w' => e = .returned (.tuple #[.int .i64 ((cnt (kept r (topL r)) 256 : Nat) : Int), .int .i64 ((missL r : Nat) : Int)]) ∧ w' = w := by
  have HR := Lib.hid hr
  have HLn := Lib.hid hr.natLen
  have HM : Hid (missL r = if r = [] then 0 else min 256 (topL r + 1) - cnt (kept r (topL r)) 256) := Lib.hid rfl
  have HA := Lib.hid (kept_all r (topL r))
  obtain ⟨t, h0⟩ : ∃ t, t = topL r := ⟨_, rfl⟩
  have HT := Lib.hid h0
  rw [← h0] at HM HA ht ⊢
  clear hr h0
  by_cases hn0 : n = 0
  · subst hn0
    have hr0 : r = [] := List.eq_nil_of_length_eq_zero HLn.out
    have HC : Hid (cnt (kept r t) 256 = 0 ∧ missL r = 0) := Lib.hid ⟨by
      rw [hr0]
      have := cnt_tail (kept [] t) 0 (fun i _ => by simp [kept]) 256
      simpa [cnt] using this, by rw [HM.out, if_pos hr0]⟩
    clear hr0
    go_enter Try.func34, Try.ntmps34
    go_wp2_with fail
    refine (rtop_any A 0 c B r w HR.out hnc hn).mono ?_
    rintro e w1 ⟨rfl, rfl⟩
    rw [← HT.out]
    go_wp2_with fail
    refine wp_loop_once ?_
    go_wp2_with fail
    go_ret2
    refine ⟨?_, rfl⟩
    rw [HC.out.1, HC.out.2]
    rfl
  · have hr0 : r ≠ [] := by
      intro e
      have := HLn.out
      rw [e] at this
      exact hn0 this.symm
    have hpos : 0 < n := by omega
    rw [if_neg hr0] at HM
    clear hr0 hn0
    have HK : Hid (∀ x j : Nat, x + j = t → kept r t j = hasL r x) := Lib.hid fun x j h => by
      unfold kept hasL
      rw [decide_eq_true (by omega), Bool.true_and, show t - j = x by omega]
    obtain ⟨f, hf⟩ : ∃ f, f = kept r t := ⟨_, rfl⟩
    rw [← hf] at HM HA HK ⊢
    clear hf
    go_enter Try.func34, Try.ntmps34
    go_wp2_with fail
    refine (rtop_any A n c B r w HR.out hnc hn).mono ?_
    rintro e w1 ⟨rfl, rfl⟩
    rw [← HT.out, decide_eq_true hpos]
    go_wp2_with fail
    go_loopw [6, 7, 8] (fun cv nv iv wv => ∃ j : Nat, j ≤ min 256 (t + 1) ∧ iv = .int .u64 j ∧ cv = .int .i64 ((cnt f j : Nat) : Int) ∧ nv = .int .i64 ((j - cnt f j : Nat) : Int) ∧ wv = w1) (fun _ _ iv _ => 256 - (intOf iv).toNat)
    case atStart => exact ⟨0, by omega, rfl, rfl, rfl, rfl⟩
    case round =>
      obtain ⟨j, hj, rfl, rfl, rfl, rfl⟩ := hrel
      have hcl := cnt_le f j
      have HN := Lib.hid (show cnt f (j + 1) = cnt f j + (f j).toNat from rfl)
      by_cases h256 : j < 256
      · by_cases hjt : j ≤ t
        · obtain ⟨x, hx⟩ : ∃ x : Nat, x + j = t := ⟨t - j, by omega⟩
          have hxe : ((t : Nat) : Int) - ((j : Nat) : Int) = ((x : Nat) : Int) := by omega
          have HF := Lib.hid (HK.out x j hx)
          obtain ⟨cj, hcj⟩ : ∃ cj, cj = cnt f j := ⟨_, rfl⟩
          rw [← hcj] at hcl HN ⊢
          clear hcj
          obtain ⟨dj, hdj⟩ : ∃ dj : Nat, dj = j - cj := ⟨_, rfl⟩
          have hdl : dj ≤ 256 := by omega
          rw [← hdj]
          have HD := Lib.hid hdj
          clear hdj
          go_wp2_with fail
          refine (rhas_any A n c B x r wr HR.out hnc hn).mono ?_
          rintro e w2 ⟨rfl, rfl⟩
          cases hb : hasL r x
          · rw [HF.out, hb] at HN
            go_wp2_with fail
            have hd := HD.out
            have hn1 := HN.out
            simp only [Bool.toNat_false, Nat.add_zero] at hn1
            exact ⟨⟨j + 1, by omega, by go_num, by rw [hn1], congrArg (Value.int .i64) (by omega), by trivial⟩, by simp [intOf]; omega⟩
          · rw [HF.out, hb] at HN
            go_wp2_with fail
            have hd := HD.out
            have hn1 := HN.out
            simp only [Bool.toNat_true] at hn1
            exact ⟨⟨j + 1, by omega, by go_num, congrArg (Value.int .i64) (by omega), congrArg (Value.int .i64) (by omega), by trivial⟩, by simp [intOf]; omega⟩
        · have hjm : Hid (j = min 256 (t + 1)) := Lib.hid (by omega)
          go_wp2_with fail
          go_ret2
          refine ⟨?_, rfl⟩
          rw [HM.out, ← HA.out, ← hjm.out]
          rfl
      · have hjm : Hid (j = min 256 (t + 1)) := Lib.hid (by omega)
        go_wp2_with fail
        go_ret2
        refine ⟨?_, rfl⟩
        rw [HM.out, ← HA.out, ← hjm.out]
        rfl
end Go.Proofs.Ytahdfginmkcgfaa
