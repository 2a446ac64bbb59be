/- The library functions that are called, by the contracts of the shelf. -/
import Derived.Shelf.Bits.Mul64
import Derived.Test.YtpnnadnmkiobcaaProg
import Derived.Test.YtpnnadnmkiobcaaUnd

namespace Go.Proofs
open Go.Shelf
def Try.lays264_ren : Go.Shelf.Ren := ⟨fun | 264 => 41 | n => n, fun | 53 => 46 | 46 => 72 | n => n, fun | n => n⟩
theorem Try.lays264 : Go.Proofs.Lays.n264 Try.prog Try.lays264_ren := {
  mixed := by kernel_rfl
  f264 := Try.func41.trans (congrArg some (by kernel_rfl))
  t46 := Try.underlying72
  a46 := Try.isAgg72
  z46 := Try.sizeOf72
  v46 := Try.zeroValue72
  t53 := Try.underlying46
  a53 := Try.isAgg46
  z53 := Try.sizeOf46
  v53 := Try.zeroValue46 }
open Go.RowKit Go.Lib in
theorem Try.bits_Mul64 (x y : Nat) (hx : x < 18446744073709551616) (hy : y < 18446744073709551616) (w : World) :
    Calls Try.prog 41 #[.int .u64 x, .int .u64 y] w fun e w' => e = .returned (.tuple #[.int .u64 ((x * y / 18446744073709551616 : Nat) : Int), .int .u64 ((x * y % 18446744073709551616 : Nat) : Int)]) ∧ w' = w := Any.bits_Mul64 Try.lays264 x y hx hy w
def Try.lays212_ren : Go.Shelf.Ren := ⟨fun | 212 => 31 | 263 => 40 | 264 => 41 | n => n, fun | 46 => 72 | 51 => 22 | 146 => 85 | 53 => 46 | 148 => 87 | n => n, fun | n => n⟩
theorem Try.lays212 : Go.Proofs.Lays.n212 Try.prog Try.lays212_ren := {
  mixed := by kernel_rfl
  f212 := Try.func31.trans (congrArg some (by kernel_rfl))
  f263 := Try.func40.trans (congrArg some (by kernel_rfl))
  f264 := Try.func41.trans (congrArg some (by kernel_rfl))
  t46 := Try.underlying72
  a46 := Try.isAgg72
  z46 := Try.sizeOf72
  v46 := Try.zeroValue72
  t51 := Try.underlying22
  a51 := Try.isAgg22
  z51 := Try.sizeOf22
  v51 := Try.zeroValue22
  t53 := Try.underlying46
  a53 := Try.isAgg46
  z53 := Try.sizeOf46
  v53 := Try.zeroValue46
  t146 := Try.underlying85
  a146 := Try.isAgg85
  z146 := Try.sizeOf85
  v146 := Try.zeroValue85
  t148 := Try.underlying87
  a148 := Try.isAgg87
  z148 := Try.sizeOf87
  v148 := Try.zeroValue87 }
open Go.RowKit Go.Lib in
theorem Try.bits_Mul (x y : Nat) (hx : x < 18446744073709551616) (hy : y < 18446744073709551616) (w : World) :
    Calls Try.prog 31 #[.int .u64 x, .int .u64 y] w fun e w' => e = .returned (.tuple #[.int .u64 ((x * y / 18446744073709551616 : Nat) : Int), .int .u64 ((x * y % 18446744073709551616 : Nat) : Int)]) ∧ w' = w := Any.bits_Mul Try.lays212 x y hx hy w
end Go.Proofs

/- Contracts of package pack. -/
namespace Go.Proofs.Ytpnnadnmkiobcaa
open Go.RowKit
set_option linter.unusedVariables false
theorem pel8 : El Try.prog 24 5 (.int .u8 0) 1 1 := ⟨Try.underlying24, by kernel_rfl, rfl, by omega, by omega⟩
theorem pel64 : El Try.prog 52 46 (.int .u64 0) 1 8 := ⟨Try.underlying52, by kernel_rfl, rfl, by omega, by omega⟩

/-- Fields as cells: how many bytes, the number. -/
def fs (l : List (Int × Nat)) : List Value := l.flatMap fun p => [Value.int .i64 p.1, Value.int .u64 (p.2 : Int)]
theorem fs_len (l : List (Int × Nat)) : (fs l).length = l.length * 2 := by
  induction l with
  | nil => rfl
  | cons p l ih => simp only [fs, List.flatMap_cons, List.length_append] at ih ⊢; rw [ih]; simp; omega
theorem fs_at (l : List (Int × Nat)) : ∀ i, (h : i < l.length) → (fs l)[i * 2]? = some (.int .i64 l[i].1) ∧ (fs l)[i * 2 + 1]? = some (.int .u64 (l[i].2 : Int)) := by
  induction l with
  | nil => intro i h; simp at h
  | cons p l ih =>
    intro i h
    cases i with
    | zero => simp [fs]
    | succ i =>
      have := ih i (by simpa using h)
      rw [show (i + 1) * 2 = i * 2 + 2 by omega, show i * 2 + 2 + 1 = i * 2 + 1 + 2 by omega]
      simpa [fs] using this
theorem Rd.fld {w : World} {B n : Nat} {A : Option Addr} {l : List (Int × Nat)} {i : Nat} (h : Rd w B 2 A n (fs l)) (hi : i < n) :
    ∃ (b off : Nat) (s : Int) (x : Nat), A = some ⟨b, off, none⟩ ∧ b < B ∧ w.cell? ⟨b, off + i * 2, none⟩ = some (.int .i64 s) ∧ w.cell? ⟨b, off + i * 2 + 1, none⟩ = some (.int .u64 (x : Int)) ∧ Hid (l[i]? = some (s, x)) := by
  obtain ⟨b, off, e, hb, hc⟩ := h.2 (by omega)
  have hl : i < l.length := by have := h.1; rw [fs_len] at this; omega
  obtain ⟨h1, h2⟩ := fs_at l i hl
  exact ⟨b, off, l[i].1, l[i].2, e, hb, (hc _ (by omega)).trans h1, by rw [Nat.add_assoc]; exact (hc _ (by omega)).trans h2, Lib.hid (by simp [hl])⟩
theorem Rd.fldLen {w : World} {B n : Nat} {A : Option Addr} {l : List (Int × Nat)} (h : Rd w B 2 A n (fs l)) : l.length = n := by have := h.1; rw [fs_len] at this; omega

/-- May a field have so many bytes? -/
def okS (s : Int) : Bool := decide (1 ≤ s) && decide (s ≤ 8)
theorem isSize_any (s : Int) (w : World) : Calls Try.prog 29 #[.int .i64 s] w fun e w' => e = .returned (.bool (okS s)) ∧ w = w' := by
  by_cases h1 : s < 1
  · have hb : okS s = false := by simp [okS]; omega
    rw [hb]
    go_enter Try.func29, Try.ntmps29
    go_wp2
    go_ret
    exact ⟨rfl, rfl⟩
  · have h2 : 1 ≤ s := by omega
    by_cases h3 : s ≤ 8
    · have hb : okS s = true := by simp [okS]; omega
      rw [hb]
      clear h1
      go_enter Try.func29, Try.ntmps29
      go_wp2
      go_ret
      exact ⟨rfl, rfl⟩
    · have hb : okS s = false := by simp [okS]; omega
      rw [hb]
      have h4 : decide (s ≤ 8) = false := by simp; omega
      clear h1 h3
      go_enter Try.func29, Try.ntmps29
      go_wp2
      go_ret
      exact ⟨rfl, rfl⟩
/-- How many bytes fields take. -/
def fsz (l : List (Int × Nat)) : Nat := (l.map fun p => if okS p.1 then p.1.toNat else 0).sum
theorem fsz_snoc (l : List (Int × Nat)) (p : Int × Nat) : fsz (l ++ [p]) = fsz l + if okS p.1 then p.1.toNat else 0 := by simp [fsz]
theorem fsz_le (l : List (Int × Nat)) : fsz l ≤ 8 * l.length := by
  induction l with
  | nil => simp [fsz]
  | cons p l ih =>
    simp only [fsz, List.map_cons, List.sum_cons, List.length_cons] at ih ⊢
    have : (if okS p.1 then p.1.toNat else 0) ≤ 8 := by split <;> (try rename_i h; simp [okS] at h) <;> omega
    omega

set_option maxRecDepth 20000 in
theorem psize_any (A : Option Addr) (n c : Nat) (l : List (Int × Nat)) (w : World) (hr : Rd w w.heap.size 2 A n (fs l)) (hn : n ≤ 100000) :
    Calls Try.prog 28 #[.slice A n c] w fun e w' => e = .returned (.int .i64 (fsz l : Nat)) ∧ Below w.heap.size w w' := by
  have HR := Lib.hid hr; have HL := Lib.hid hr.fldLen
  clear hr
  go_enter Try.func28, Try.ntmps28
  go_wp2
  go_loopw [3, 5, 8] (fun s _ i wr => ∃ k : Nat, k ≤ n ∧ i = .int .i64 k ∧ s = .int .i64 (fsz (l.take k) : Nat) ∧ Below w.heap.size w wr) (fun _ _ i _ => n - (intOf i).toNat)
  case atStart => exact ⟨0, Nat.zero_le _, rfl, rfl, Below.refl _ _⟩
  case round =>
    obtain ⟨k, hk, rfl, rfl, hb⟩ := hrel
    have hs := fsz_le (l.take k)
    have hkl : (l.take k).length ≤ k := List.length_take_le _ _
    by_cases hlt : k < n
    · obtain ⟨b, off, s, x, rfl, hbk, hc1, hc2, hx⟩ := (HR.out.below hb).fld hlt
      have hI := isSize_any s
      have hT := fsz_snoc (l.take k) (s, x)
      rw [← nth_take hx] at hT
      cases hok : okS s with
      | true =>
        have h18 : 1 ≤ s ∧ s ≤ 8 := by simpa [okS] using hok
        obtain ⟨g1, g2⟩ := h18
        simp only [hok] at hI hT
        have HI := Lib.hid hI; have HT := Lib.hid hT
        clear hok hI hT
        go_wp2_with fail
        refine (HI.out _).mono ?_
        rintro e w2 ⟨rfl, rfl⟩
        go_wp2_with fail
        go_roundw
        case rel => exact ⟨k + 1, by omega, by go_num, by rw [HT.out]; simp; omega, hb.alloc hb.size _⟩
        case measure => simp [intOf]; omega
      | false =>
        simp only [hok] at hI hT
        have HI := Lib.hid hI; have HT := Lib.hid hT
        clear hok hI hT
        go_wp2_with fail
        refine (HI.out _).mono ?_
        rintro e w2 ⟨rfl, rfl⟩
        go_wp2_with fail
        go_roundw
        case rel => exact ⟨k + 1, by omega, by go_num, by rw [HT.out]; simp, hb.alloc hb.size _⟩
        case measure => simp [intOf]; omega
    · have hk : k = n := by omega
      subst hk
      rw [List.take_of_length_le (by have := HL.out; omega)]
      go_wp2
      go_ret
      exact ⟨rfl, hb⟩

/-- The lowest bytes of a number, the highest ahead. -/
def be (n : Nat) : Nat → List Nat
  | 0 => []
  | k + 1 => be (n / 256) k ++ [n % 256]
theorem be_len (k : Nat) : ∀ n, (be n k).length = k := by
  induction k with
  | zero => intro n; rfl
  | succ k ih => intro n; simp [be, ih]
theorem be_byte (k : Nat) : ∀ n, ∀ x ∈ be n k, x < 256 := by
  induction k with
  | zero => intro n x hx; simp [be] at hx
  | succ k ih =>
    intro n x hx
    simp [be] at hx
    rcases hx with hx | rfl
    · exact ih _ _ hx
    · omega
/-- From the front: the highest byte, then the others. -/
theorem be_front (k : Nat) : ∀ n, be n (k + 1) = n / 256 ^ k % 256 :: be n k := by
  induction k with
  | zero => intro n; simp [be]
  | succ k ih =>
    intro n
    rw [be, ih (n / 256), be, Nat.div_div_eq_div_mul, ← Nat.pow_succ']
    rfl
/-- The bytes of fields. -/
def fbs (l : List (Int × Nat)) : List Nat := l.flatMap fun p => if okS p.1 then be p.2 p.1.toNat else []
theorem fbs_snoc (l : List (Int × Nat)) (p : Int × Nat) : fbs (l ++ [p]) = fbs l ++ if okS p.1 then be p.2 p.1.toNat else [] := by simp [fbs]
theorem fbs_len (l : List (Int × Nat)) : (fbs l).length = fsz l := by
  induction l with
  | nil => rfl
  | cons p l ih =>
    simp only [fbs, fsz, List.flatMap_cons, List.map_cons, List.sum_cons, List.length_append] at ih ⊢
    rw [ih]
    split <;> simp [be_len]

set_option maxRecDepth 20000 in
theorem pput_any (A C : Option Addr) (n m c d : Nat) (lb : List Nat) (l : List (Int × Nat)) (w : World) (hb : Rd w w.heap.size 1 A n (ns .u8 lb)) (hs : Rd w w.heap.size 2 C m (fs l)) (hn : n + 10 * m ≤ 100000) (h64 : ∀ p ∈ l, p.2 < 18446744073709551616) :
    Calls Try.prog 15 #[.slice A n c, .slice C m d] w fun e w' => ∃ v, e = .returned v ∧ Nats w' 5 .u8 w.heap.size v (lb ++ fbs l) ∧ Below w.heap.size w w' := by
  have HB := Lib.hid hb; have HS := Lib.hid hs; have HLB := Lib.hid hb.natLen; have HLS := Lib.hid hs.fldLen; have H64 := Lib.hid h64
  clear hb hs h64
  have hsz := fsz_le l
  rw [HLS.out] at hsz
  have HSZ := Lib.hid hsz
  go_enter Try.func15, Try.ntmps15
  go_wp2_with fail
  refine (psize_any C m d l w HS.out (by omega)).mono ?_
  rintro e w1 ⟨rfl, hb1⟩
  go_wp2_with (at_make; go_must (refine mkn (k := .u8) (kl := .i64) (kc := .i64) (base := w.heap.size) pel8 rfl _ _ rfl (n + fsz l) rfl rfl ?_ ?_ hb1.size ?_))
  · rfl
  · exact room_ge (by omega)
  intro w2 h2 hb2
  have hbl2 := hb1.trans hb2
  go_wp2_with (at_builtin; go_must (refine appn pel8 rfl _ _ rfl rfl h2 rfl (HB.out.below hbl2) ?_ ?_ ?_))
  · have := HLB.out; simp; exact room_ge (by omega)
  · exact hbl2.size
  intro v3 w3 h3 _ hb3
  have hbl3 := hbl2.trans hb3
  clear hsz h2 hb2 hb1 hbl2 hb3
  go_wp2_with fail
  go_loopw [5, 7, 8, 20] (fun v _ _ i wr => ∃ k : Nat, k ≤ m ∧ i = .int .i64 k ∧ Nats wr 5 .u8 w.heap.size v (lb ++ fbs (l.take k)) ∧ Below w.heap.size w wr) (fun _ _ _ i _ => m - (intOf i).toNat)
  case atStart => exact ⟨0, Nat.zero_le _, rfl, by simpa [fbs] using h3, hbl3⟩
  case round =>
    obtain ⟨k, hk, rfl, h4, hb4⟩ := hrel
    clear h3 hbl3
    have hs4 := fsz_le (l.take k)
    have hkl : (l.take k).length ≤ k := List.length_take_le _ _
    rw [← fbs_len] at hs4
    by_cases hlt : k < m
    · obtain ⟨b, off, s, x, rfl, hbk, hc1, hc2, hx⟩ := (HS.out.below hb4).fld hlt
      have hI := isSize_any s
      have hT := fbs_snoc (l.take k) (s, x)
      rw [← nth_take hx] at hT
      have HX := Lib.hid (H64.out _ (nth_mem hx))
      cases hok : okS s with
      | true =>
        have h18 : 1 ≤ s ∧ s ≤ 8 := by simpa [okS] using hok
        obtain ⟨g1, g2⟩ := h18
        simp only [hok] at hI hT
        have HI := Lib.hid hI; have HT := Lib.hid hT
        clear hok hI hT
        go_wp2_with fail
        refine (HI.out _).mono ?_
        rintro e w5 ⟨rfl, rfl⟩
        go_wp2_with fail
        obtain ⟨r0, hr0⟩ : ∃ r0 : Nat, s = (r0 : Int) := ⟨s.toNat, by omega⟩
        have hk0 := Blk.new wr 48 #[Value.int IntKind.i64 s, Value.int IntKind.u64 (x : Int)]
        have h5 := h4.alloc (.cells #[Value.int IntKind.i64 s, Value.int IntKind.u64 (x : Int)] 48)
        have hb5 := hb4.alloc hb4.size (.cells #[Value.int IntKind.i64 s, Value.int IntKind.u64 (x : Int)] 48)
        obtain ⟨g, hg⟩ : ∃ g, g = wr.heap.size := ⟨_, rfl⟩
        rw [← hg] at hk0 ⊢
        generalize wr.alloc (.cells #[Value.int IntKind.i64 s, Value.int IntKind.u64 (x : Int)] 48) = w6 at hk0 h5 hb5 ⊢
        subst hr0
        have HG := Lib.hid hg
        clear hg h4 hb4 hc1 hc2
        go_loopw [5, 8] (fun v sh ws => ∃ (r : Nat) (acc : List Nat), r ≤ r0 ∧ sh = .int .i64 (8 * (r : Int) - 8) ∧ Nats ws 5 .u8 w.heap.size v acc ∧ acc.length ≤ n + 8 * k + 8 - r ∧ Hid (acc ++ be x r = lb ++ fbs (l.take (k + 1))) ∧ Blk ws g 48 #[Value.int IntKind.i64 (r0 : Int), Value.int IntKind.u64 (x : Int)] ∧ Below w.heap.size w ws) (fun _ sh _ => (intOf sh + 8).toNat)
        case atStart => exact ⟨r0, _, Nat.le_refl _, by congr 1; omega, h5, by have := HLB.out; simp; omega, Lib.hid (by rw [HT.out]; simp), hk0, hb5⟩
        case round =>
          obtain ⟨r, acc, hr, rfl, h6, hal, ha, hk6, hb6⟩ := hrel
          have hcell := hk6.cell 1
          have hcell : _ = some (Value.int IntKind.u64 (x : Int)) := hcell
          by_cases hr0 : r = 0
          · subst hr0
            have hfin := h6
            have ha := ha.out
            simp only [be, List.append_nil] at ha
            rw [ha] at hfin
            clear ha h6
            go_wp2_with fail
            go_roundw
            case rel => exact ⟨k + 1, by omega, by go_num, hfin, hb6⟩
            case measure => simp [intOf]; omega
          · obtain ⟨r', rfl⟩ : ∃ r', r = r' + 1 := ⟨r - 1, by omega⟩
            go_wp2_with (at_builtin; go_must (refine app1n pel8 (x / 256 ^ r' % 256) rfl _ _ rfl rfl h6 rfl ?_ ?_ ?_ ?_))
            · rw [shr_byte]
            · exact room_ge (by omega)
            · exact hb6.size
            intro v7 w7 h7 hg7 hb7
            have hk7 := hk6.far h6 (by decide) hg7
            go_wp2_with fail
            go_roundw
            case rel =>
              refine ⟨r', acc ++ [x / 256 ^ r' % 256], by omega, by congr 1; omega, h7, by simp; omega, Lib.hid ?_, hk7, hb6.trans hb7⟩
              rw [← ha.out, be_front]
              simp
            case measure => simp [intOf]; omega
      | false =>
        simp only [hok] at hI hT
        have HI := Lib.hid hI; have HT := Lib.hid hT
        clear hok hI hT
        go_wp2_with fail
        refine (HI.out _).mono ?_
        rintro e w5 ⟨rfl, rfl⟩
        go_wp2_with fail
        go_roundw
        case rel => exact ⟨k + 1, by omega, by go_num, by rw [HT.out]; simpa using h4.alloc _, hb4.alloc hb4.size _⟩
        case measure => simp [intOf]; omega
    · have hk : k = m := by omega
      subst hk
      rw [List.take_of_length_le (by have := HLS.out; omega)] at h4
      go_wp2_with fail
      go_ret
      exact ⟨_, rfl, h4, hb4⟩
end Go.Proofs.Ytpnnadnmkiobcaa
