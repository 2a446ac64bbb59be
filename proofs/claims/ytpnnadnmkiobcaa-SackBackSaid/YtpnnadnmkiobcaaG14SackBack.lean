/- Contracts of package pack: Get, All. -/
import Derived.Test.YtpnnadnmkiobcaaG11SackBack

namespace Go.Proofs.Ytpnnadnmkiobcaa
open Go.RowKit
set_option linter.unusedVariables false

set_option maxRecDepth 20000 in
theorem pall_any (A C : Option Addr) (n m c d : Nat) (lb : List Nat) (ss : List Int) (w : World) (hr : Rd w w.heap.size 1 A n (ns .u8 lb)) (hs : Rd w w.heap.size 1 C m (zs .i64 ss)) (hnc : n ≤ c) (hb : ∀ x ∈ lb, x < 256) (hn : n ≤ 100000) (hm : m ≤ 100000) :
    Calls Try.prog 18 #[.slice A n c, .slice C m d] w fun e w' => Below w.heap.size w w' ∧
      ((∃ (xs : List Nat) (v : Value), cut lb ss = some (xs, []) ∧ e = .returned (.tuple #[v, .bool true]) ∧ Nats w' 46 .u64 w.heap.size v xs) ∨
      ((∀ xs, cut lb ss ≠ some (xs, [])) ∧ e = .returned (.tuple #[.slice none 0 0, .bool false]))) := by
  have HP := Lib.hid (psplit_any A C n m c d lb ss w hr hs hnc hb hn hm)
  clear hr hs hb
  go_enter Try.func18, Try.ntmps18
  go_wp2_with fail
  refine HP.out.mono ?_
  clear HP
  rintro e w1 ⟨hb1, hc1⟩
  rcases hc1 with ⟨xs, rest, v, A', n', c', hcut, rfl, hv, hn1, hn2, hrest⟩ | ⟨hcut, rfl⟩
  · have HC := Lib.hid hcut; have HRL := Lib.hid hrest.natLen
    clear hcut hrest
    by_cases h0 : n' = 0
    · subst h0
      obtain rfl : rest = [] := List.eq_nil_of_length_eq_zero HRL.out
      go_wp2_with fail
      go_ret2
      exact ⟨hb1, .inl ⟨xs, v, HC.out, rfl, hv⟩⟩
    · have hp : (0 : Int) < (n' : Int) := by omega
      have HNE : Hid (rest ≠ []) := Lib.hid (by intro h; have := HRL.out; rw [h] at this; simp at this; omega)
      clear h0
      go_wp2_with fail
      go_ret2
      exact ⟨hb1, .inr ⟨fun ys h => by rw [HC.out] at h; injection h with h; injection h with _ h; exact HNE.out h, rfl⟩⟩
  · have HC := Lib.hid hcut
    clear hcut
    go_wp2_with fail
    go_ret2
    exact ⟨hb1, .inr ⟨fun ys h => (by rw [HC.out] at h; cases h), rfl⟩⟩
end Go.Proofs.Ytpnnadnmkiobcaa

/- The document's answers of layer 2. -/
namespace Go.Proofs.Ytpnnadnmkiobcaa
open Go.RowKit
set_option linter.unusedVariables false

set_option maxRecDepth 20000 in
theorem rput_any (k : Nat) : ∀ (v : Value) (l : List Nat) (n B : Nat) (w : World), k ≤ 8 → Nats w 5 .u8 B v l → B ≤ w.heap.size → l.length + k ≤ 100000 → n < 18446744073709551616 →
    Calls Try.prog 17 #[v, .int .u64 n, .int .i64 k] w fun e w' => ∃ v', e = .returned v' ∧ Nats w' 5 .u8 B v' (l ++ be n k) ∧ Below B w w' := by
  induction k with
  | zero =>
    intro v l n B w hk ho hB hl hn
    go_enter Try.func17, Try.ntmps17
    go_wp2
    go_ret
    exact ⟨_, rfl, by simpa [be] using ho, Below.refl _ _⟩
  | succ k ih =>
    intro v l n B w hk ho hB hl hn
    have HO := Lib.hid ho; have HN := Lib.hid hn; have IH := Lib.hid ih
    clear ho hn ih
    go_enter Try.func17, Try.ntmps17
    go_wp2_with fail
    rw [show IntKind.u64.wrap ((n : Int) / 256) = ((n / 256 : Nat) : Int) by rw [IntKind.wrap_u64]; have := HN.out; omega]
    refine (IH.out v l (n / 256) B w (by omega) HO.out hB (by omega) (by have := HN.out; omega)).mono ?_
    rintro e w1 ⟨v1, rfl, h1, hb1⟩
    have hz : B ≤ w1.heap.size := Nat.le_trans hB hb1.size
    go_wp2_with (at_builtin; go_must (refine app1n pel8 (n % 256) rfl _ _ rfl rfl h1 rfl ?_ ?_ hz ?_))
    · rfl
    · rw [List.length_append, be_len]; exact room_ge (by omega)
    intro v2 w2 h2 _ hb2
    go_wp2
    go_ret
    exact ⟨v2, rfl, by rw [be, ← List.append_assoc]; simpa using h2, hb1.trans hb2⟩

theorem uuacc (m x : Nat) (hm : m < 256 ^ 7) (hx : x < 256) : IntKind.u64.wrap (IntKind.u64.wrap ((m : Int) * 256) + ((x : Nat) : Int)) = ((m * 256 + x : Nat) : Int) := by
  rw [IntKind.wrap_u64, IntKind.wrap_u64]; omega

set_option maxRecDepth 20000 in
theorem rget_any (A : Option Addr) (n c : Nat) (l : List Nat) (s : Int) (B : Nat) (w : World) (hr : Rd w B 1 A n (ns .u8 l)) (hnc : n ≤ c) (hb : ∀ x ∈ l, x < 256) (hn : n ≤ 100000) :
    Calls Try.prog 33 #[.slice A n c, .int .i64 s] w fun e w' => Below w.heap.size w w' ∧
      ((∃ (t : Nat) (A' : Option Addr) (n' c' : Nat), s = (t : Int) ∧ 1 ≤ t ∧ t ≤ 8 ∧ n = t + n' ∧ n' ≤ c' ∧ e = .returned (.tuple #[.int .u64 (ub (l.take t) : Nat), .slice A' n' c', .bool true]) ∧ Rd w B 1 A' n' (ns .u8 (l.drop t))) ∨
      ((okS s = false ∨ ¬ s.toNat ≤ n) ∧ e = .returned (.tuple #[.int .u64 0, .slice none 0 0, .bool false]))) := by
  have HR := Lib.hid hr; have HB := Lib.hid hb; have HL := Lib.hid hr.natLen
  clear hr hb
  by_cases h1 : s < 1
  · go_enter Try.func33, Try.ntmps33
    go_wp2
    go_ret3
    exact ⟨Below.refl _ _, .inr ⟨.inl (by simp [okS]; omega), rfl⟩⟩
  obtain ⟨t, rfl⟩ : ∃ t : Nat, s = (t : Int) := ⟨s.toNat, by omega⟩
  by_cases h2 : t > 8
  · have h3 : (8 : Int) < (t : Int) := by omega
    go_enter Try.func33, Try.ntmps33
    go_wp2
    go_ret3
    exact ⟨Below.refl _ _, .inr ⟨.inl (by simp [okS]; omega), rfl⟩⟩
  have h3 : decide ((8 : Int) < (t : Int)) = false := by simp; omega
  by_cases h4 : n < t
  · have h5 : (n : Int) < (t : Int) := by omega
    have H4 := Lib.hid h4
    clear h4
    go_enter Try.func33, Try.ntmps33
    go_wp2
    go_ret3
    exact ⟨Below.refl _ _, .inr ⟨.inr (by have := H4.out; simp; omega), rfl⟩⟩
  have h5 : decide ((n : Int) < (t : Int)) = false := by simp; omega
  have ht1 : 1 ≤ t := by omega
  have ht8 : t ≤ 8 := by omega
  have htn : t ≤ n := by omega
  clear h2 h4
  go_enter Try.func33, Try.ntmps33
  go_wp2_with fail
  go_loop [7, 8] (fun s i => ∃ k : Nat, k ≤ t ∧ i = .int .i64 k ∧ s = .int .u64 (ub (l.take k) : Nat)) (fun _ i => t - (intOf i).toNat)
  case atStart => exact ⟨0, Nat.zero_le _, rfl, rfl⟩
  case round =>
    obtain ⟨k, hk, rfl, rfl⟩ := hrel
    by_cases hlt : k < t
    · obtain ⟨b, off, x, rfl, hbk, hcell, hx⟩ := HR.out.nth (i := k) (by omega)
      have hx8 := HB.out _ (nth_mem hx)
      have hlen : (l.take k).length = k := by rw [List.length_take, HL.out]; omega
      have hub := ub_lt k (l.take k) hlen fun y hy => HB.out y (List.mem_of_mem_take hy)
      have hub7 : ub (l.take k) < 256 ^ 7 := Nat.lt_of_lt_of_le hub (Nat.pow_le_pow_right (by omega) (by omega))
      have hacc := uuacc (ub (l.take k)) x hub7 hx8
      have hs : ub (l.take (k + 1)) = ub (l.take k) * 256 + x := by rw [nth_take hx, ub_snoc]
      rw [← hs] at hacc
      clear hub hub7 hlen hs
      go_wp2_with fail
      go_round
      case rel => exact ⟨k + 1, by omega, by go_num, rfl⟩
      case measure => simp [intOf]; omega
    · have hk : k = t := by omega
      subst hk
      have s1 : (0 : Int) ≤ (k : Int) := by omega
      have s2 : (k : Int) ≤ (n : Int) := by omega
      have s3 : (k : Int) ≤ (c : Int) := by omega
      have HD := HR.out.dropN htn hnc
      by_cases hck : c = k
      · subst hck
        obtain rfl : n = c := by omega
        rw [if_pos rfl, Nat.sub_self] at HD
        have HD := Lib.hid HD
        go_wp2_with fail
        refine wp_opend [([0, 1, 2, 3, 4, 5, 6], none)] (by kernel_rfl) (by kernel_rfl) (by kernel_rfl) (fun QQ hQ wd hwd => ?_); (try simp only [List.map_cons, List.map_nil, List.getD_cons_zero, List.getD_cons_succ])
        have hbd := drawn_below hwd w.heap.size
        refine walkS_last ?_
        simp only [List.map_cons, List.map_nil, List.getD_cons_zero, List.getD_cons_succ]
        (repeat (first | (refine qskip (by rfl) ?_; simp only [Act.put, List.setIfInBounds_toArray, List.set_cons_zero, List.set_cons_succ]) | (refine qstep (by rfl) (fun K hK => qval (v := ?_) (fun w' hx => ?_) (hK _ ?_)); rotate_left; (go_simp; with_reducible rfl); clear hK K; (try simp only [Act.put, List.setIfInBounds_toArray, List.set_cons_zero, List.set_cons_succ])) | (refine qstep (by rfl) (fun K hK => qload _ rfl rfl (by assumption) (by kernel_rfl) (hK _ ?_)); clear hK K; simp only [Act.put, List.setIfInBounds_toArray, List.set_cons_zero, List.set_cons_succ])))
        refine wpQuiet_nil (hQ.out _ _ ?_)
        clear hQ
        go_wp2_with fail
        go_ret3
        exact ⟨hbd, .inl ⟨n, A, 0, 0, rfl, ht1, ht8, rfl, Nat.le_refl _, rfl, HD.out⟩⟩
      · rw [if_neg hck] at HD
        have HD := Lib.hid HD
        go_wp2_with fail
        refine wp_opend [([0, 1, 2, 3, 4, 5, 6], none)] (by kernel_rfl) (by kernel_rfl) (by kernel_rfl) (fun QQ hQ wd hwd => ?_); (try simp only [List.map_cons, List.map_nil, List.getD_cons_zero, List.getD_cons_succ])
        have hbd := drawn_below hwd w.heap.size
        refine walkS_last ?_
        simp only [List.map_cons, List.map_nil, List.getD_cons_zero, List.getD_cons_succ]
        (repeat (first | (refine qskip (by rfl) ?_; simp only [Act.put, List.setIfInBounds_toArray, List.set_cons_zero, List.set_cons_succ]) | (refine qstep (by rfl) (fun K hK => qval (v := ?_) (fun w' hx => ?_) (hK _ ?_)); rotate_left; (go_simp; with_reducible rfl); clear hK K; (try simp only [Act.put, List.setIfInBounds_toArray, List.set_cons_zero, List.set_cons_succ])) | (refine qstep (by rfl) (fun K hK => qload _ rfl rfl (by assumption) (by kernel_rfl) (hK _ ?_)); clear hK K; simp only [Act.put, List.setIfInBounds_toArray, List.set_cons_zero, List.set_cons_succ])))
        refine wpQuiet_nil (hQ.out _ _ ?_)
        clear hQ
        go_wp2_with fail
        go_ret3
        exact ⟨hbd, .inl ⟨k, _, n - k, c - k, rfl, ht1, ht8, by omega, by omega, rfl, HD.out⟩⟩
end Go.Proofs.Ytpnnadnmkiobcaa
