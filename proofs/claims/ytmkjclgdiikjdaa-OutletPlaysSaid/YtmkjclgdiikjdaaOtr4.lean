/- Layer 17: the document's outlet: Put. -/
import Derived.Test.YtmkjclgdiikjdaaOtr3
import Derived.Test.YtmkjclgdiikjdaaOrd
namespace Go.Proofs.Ytmkjclgdiikjdaa
open Go.RowKit
set_option linter.unusedVariables false
set_option linter.unusedSimpArgs false
set_option maxRecDepth 20000 in
set_option maxHeartbeats 4000000 in
theorem r_put (A : Option Addr) (n c base size : Nat) (cl dn : Bool) (bs : List Nat) (B : Nat) (A2 : Option Addr) (nb cb : Nat) (l : List Nat) (w : World) (hx : Nats w 5 .u8 B (.slice A n c) bs) (hB : B ≤ w.heap.size) (hr : Rd w w.heap.size 1 A2 nb (ns .u8 l)) (hnb : nb ≤ cb) (hmax : nb ≤ 1000000) (hn : bs.length = n) (hns : n ≤ size) (hsz : size ≤ 65536) (hlim : base + n ≤ qLim) (k er : Nat) (hk : k = putK size base cl n nb) (her : er = putE size base cl n nb) :
    Calls Try.prog 28 #[.agg #[.slice A n c, .int .u64 (base : Int), .int .i64 (size : Int), .bool cl, .bool dn], .slice A2 nb cb] w fun x w' => ∃ v, x = .returned (.tuple #[.agg #[v, .int .u64 (base : Int), .int .i64 (size : Int), .bool cl, .bool dn], .int .i64 (k : Int), .int .i64 (er : Int)]) ∧ Nats w' 5 .u8 B v (bs ++ l.take k) ∧ Below w.heap.size w w' := by
  have HN := Sh.mk hx
  have HBS := Sh.mk hB
  have HR := Sh.mk hr
  have HNL := Sh.mk hr.natLen
  have HNN := Sh.mk hn
  clear hx hB hr hn
  cases cl
  case true =>
    obtain rfl : 0 = k := by rw [hk]; rfl
    obtain rfl : 212 = er := by rw [her]; rfl
    clear hk her hns hsz hlim
    go_enter Try.func28, Try.ntmps28
    go_upto_region 1 with fail
    have KX : Hid (Blk (w.alloc (.cells #[.slice A n c, .int .u64 (base : Int), .int .i64 (size : Int), .bool true, .bool dn] 31)) (w.heap.size) 31 #[.slice A n c, .int .u64 (base : Int), .int .i64 (size : Int), .bool true, .bool dn]) := Lib.hid ((Blk.new w 31 #[.slice A n c, .int .u64 (base : Int), .int .i64 (size : Int), .bool true, .bool dn]))
    replace KX : Hid (Blk ((w.alloc (.cells #[.slice A n c, .int .u64 (base : Int), .int .i64 (size : Int), .bool true, .bool dn] 31)).alloc (.cells #[.slice none 0 0, .int .u64 0, .int .i64 0, .bool false, .bool false] 31)) (w.heap.size) 31 #[.slice A n c, .int .u64 (base : Int), .int .i64 (size : Int), .bool true, .bool dn]) := Lib.hid (KX.out.alloc _)
    have KR : Hid (Blk ((w.alloc (.cells #[.slice A n c, .int .u64 (base : Int), .int .i64 (size : Int), .bool true, .bool dn] 31)).alloc (.cells #[.slice none 0 0, .int .u64 0, .int .i64 0, .bool false, .bool false] 31)) (w.heap.size + 1) 31 #[.slice none 0 0, .int .u64 0, .int .i64 0, .bool false, .bool false]) := Lib.hid ((Blk.new (w.alloc (.cells #[.slice A n c, .int .u64 (base : Int), .int .i64 (size : Int), .bool true, .bool dn] 31)) 31 #[.slice none 0 0, .int .u64 0, .int .i64 0, .bool false, .bool false]) |> fun h => by simpa using h)
    have b1 : Hid (Below w.heap.size w ((w.alloc (.cells #[.slice A n c, .int .u64 (base : Int), .int .i64 (size : Int), .bool true, .bool dn] 31)).alloc (.cells #[.slice none 0 0, .int .u64 0, .int .i64 0, .bool false, .bool false] 31))) := Lib.hid (((Below.refl w.heap.size w).alloc (Nat.le_refl _) (.cells #[.slice A n c, .int .u64 (base : Int), .int .i64 (size : Int), .bool true, .bool dn] 31)).alloc (by simp <;> omega) (.cells #[.slice none 0 0, .int .u64 0, .int .i64 0, .bool false, .bool false] 31))
    have hz : ((w.alloc (.cells #[.slice A n c, .int .u64 (base : Int), .int .i64 (size : Int), .bool true, .bool dn] 31)).alloc (.cells #[.slice none 0 0, .int .u64 0, .int .i64 0, .bool false, .bool false] 31)).heap.size = w.heap.size + 2 := by simp
    generalize ((w.alloc (.cells #[.slice A n c, .int .u64 (base : Int), .int .i64 (size : Int), .bool true, .bool dn] 31)).alloc (.cells #[.slice none 0 0, .int .u64 0, .int .i64 0, .bool false, .bool false] 31)) = w2 at KX KR b1 hz ⊢
    have HZ := Lib.hid hz
    clear hz
    have c0 : w2.cell? ⟨w.heap.size, 0, none⟩ = some (.slice A n c) := by rw [KX.out.cell]; rfl
    have c1 : w2.cell? ⟨w.heap.size, 1, none⟩ = some (.int .u64 (base : Int)) := by rw [KX.out.cell]; rfl
    have c2 : w2.cell? ⟨w.heap.size, 2, none⟩ = some (.int .i64 (size : Int)) := by rw [KX.out.cell]; rfl
    have c3 : w2.cell? ⟨w.heap.size, 3, none⟩ = some (.bool true) := by rw [KX.out.cell]; rfl
    have c4 : w2.cell? ⟨w.heap.size, 4, none⟩ = some (.bool dn) := by rw [KX.out.cell]; rfl
    have BB := Sh.mk b1.out
    clear b1
    go_wp2_with (refine stm_store (cs' := #[.slice A n c, .int .u64 (base : Int), .int .i64 (size : Int), .bool true, .bool dn]) KR.out rfl _ _ rfl rfl rfl (by simp) (by kernel_rfl) (by simp [Value.oneCell']) (by simp [setL]) fun w9 hk hs => ?_)
    go_wp2_with fail
    have r0 : w9.cell? ⟨(w.heap.size + 1), 0, none⟩ = some (.slice A n c) := by rw [hk.cell]; rfl
    have r1 : w9.cell? ⟨(w.heap.size + 1), 1, none⟩ = some (.int .u64 (base : Int)) := by rw [hk.cell]; rfl
    have r2 : w9.cell? ⟨(w.heap.size + 1), 2, none⟩ = some (.int .i64 (size : Int)) := by rw [hk.cell]; rfl
    have r3 : w9.cell? ⟨(w.heap.size + 1), 3, none⟩ = some (.bool true) := by rw [hk.cell]; rfl
    have r4 : w9.cell? ⟨(w.heap.size + 1), 4, none⟩ = some (.bool dn) := by rw [hk.cell]; rfl
    refine bodyPost_ret (v := .tuple #[.agg #[.slice A n c, .int .u64 (base : Int), .int .i64 (size : Int), .bool true, .bool dn], .int .i64 0, .int .i64 212]) (by simp [results, Try.results28, go_sem, r0, r1, r2, r3, r4]) rfl ?_
    have HT := Sh.mk (BB.out.trans (hs.1.mono (by omega)))
    exact ⟨_, rfl, by rw [List.take_zero, List.append_nil]; exact HN.out.below HT.out, HT.out⟩
  case false =>
    unfold putK at hk
    unfold putE at her
    simp only [Bool.false_eq_true, if_false] at hk her
    by_cases h0 : nb = 0
    · rw [if_pos h0] at her
      obtain rfl : 0 = k := by omega
      obtain rfl : 0 = er := her.symm
      subst h0
      clear hk her hns hsz hlim
      go_enter Try.func28, Try.ntmps28
      go_upto_region 1 with fail
      have KX : Hid (Blk (w.alloc (.cells #[.slice A n c, .int .u64 (base : Int), .int .i64 (size : Int), .bool false, .bool dn] 31)) (w.heap.size) 31 #[.slice A n c, .int .u64 (base : Int), .int .i64 (size : Int), .bool false, .bool dn]) := Lib.hid ((Blk.new w 31 #[.slice A n c, .int .u64 (base : Int), .int .i64 (size : Int), .bool false, .bool dn]))
      replace KX : Hid (Blk ((w.alloc (.cells #[.slice A n c, .int .u64 (base : Int), .int .i64 (size : Int), .bool false, .bool dn] 31)).alloc (.cells #[.slice none 0 0, .int .u64 0, .int .i64 0, .bool false, .bool false] 31)) (w.heap.size) 31 #[.slice A n c, .int .u64 (base : Int), .int .i64 (size : Int), .bool false, .bool dn]) := Lib.hid (KX.out.alloc _)
      have KR : Hid (Blk ((w.alloc (.cells #[.slice A n c, .int .u64 (base : Int), .int .i64 (size : Int), .bool false, .bool dn] 31)).alloc (.cells #[.slice none 0 0, .int .u64 0, .int .i64 0, .bool false, .bool false] 31)) (w.heap.size + 1) 31 #[.slice none 0 0, .int .u64 0, .int .i64 0, .bool false, .bool false]) := Lib.hid ((Blk.new (w.alloc (.cells #[.slice A n c, .int .u64 (base : Int), .int .i64 (size : Int), .bool false, .bool dn] 31)) 31 #[.slice none 0 0, .int .u64 0, .int .i64 0, .bool false, .bool false]) |> fun h => by simpa using h)
      have b1 : Hid (Below w.heap.size w ((w.alloc (.cells #[.slice A n c, .int .u64 (base : Int), .int .i64 (size : Int), .bool false, .bool dn] 31)).alloc (.cells #[.slice none 0 0, .int .u64 0, .int .i64 0, .bool false, .bool false] 31))) := Lib.hid (((Below.refl w.heap.size w).alloc (Nat.le_refl _) (.cells #[.slice A n c, .int .u64 (base : Int), .int .i64 (size : Int), .bool false, .bool dn] 31)).alloc (by simp <;> omega) (.cells #[.slice none 0 0, .int .u64 0, .int .i64 0, .bool false, .bool false] 31))
      have hz : ((w.alloc (.cells #[.slice A n c, .int .u64 (base : Int), .int .i64 (size : Int), .bool false, .bool dn] 31)).alloc (.cells #[.slice none 0 0, .int .u64 0, .int .i64 0, .bool false, .bool false] 31)).heap.size = w.heap.size + 2 := by simp
      generalize ((w.alloc (.cells #[.slice A n c, .int .u64 (base : Int), .int .i64 (size : Int), .bool false, .bool dn] 31)).alloc (.cells #[.slice none 0 0, .int .u64 0, .int .i64 0, .bool false, .bool false] 31)) = w2 at KX KR b1 hz ⊢
      have HZ := Lib.hid hz
      clear hz
      have c0 : w2.cell? ⟨w.heap.size, 0, none⟩ = some (.slice A n c) := by rw [KX.out.cell]; rfl
      have c1 : w2.cell? ⟨w.heap.size, 1, none⟩ = some (.int .u64 (base : Int)) := by rw [KX.out.cell]; rfl
      have c2 : w2.cell? ⟨w.heap.size, 2, none⟩ = some (.int .i64 (size : Int)) := by rw [KX.out.cell]; rfl
      have c3 : w2.cell? ⟨w.heap.size, 3, none⟩ = some (.bool false) := by rw [KX.out.cell]; rfl
      have c4 : w2.cell? ⟨w.heap.size, 4, none⟩ = some (.bool dn) := by rw [KX.out.cell]; rfl
      have BB := Sh.mk b1.out
      clear b1
      go_wp2_with (refine stm_store (cs' := #[.slice A n c, .int .u64 (base : Int), .int .i64 (size : Int), .bool false, .bool dn]) KR.out rfl _ _ rfl rfl rfl (by simp) (by kernel_rfl) (by simp [Value.oneCell']) (by simp [setL]) fun w9 hk hs => ?_)
      go_wp2_with fail
      have r0 : w9.cell? ⟨(w.heap.size + 1), 0, none⟩ = some (.slice A n c) := by rw [hk.cell]; rfl
      have r1 : w9.cell? ⟨(w.heap.size + 1), 1, none⟩ = some (.int .u64 (base : Int)) := by rw [hk.cell]; rfl
      have r2 : w9.cell? ⟨(w.heap.size + 1), 2, none⟩ = some (.int .i64 (size : Int)) := by rw [hk.cell]; rfl
      have r3 : w9.cell? ⟨(w.heap.size + 1), 3, none⟩ = some (.bool false) := by rw [hk.cell]; rfl
      have r4 : w9.cell? ⟨(w.heap.size + 1), 4, none⟩ = some (.bool dn) := by rw [hk.cell]; rfl
      refine bodyPost_ret (v := .tuple #[.agg #[.slice A n c, .int .u64 (base : Int), .int .i64 (size : Int), .bool false, .bool dn], .int .i64 0, .int .i64 0]) (by simp [results, Try.results28, go_sem, r0, r1, r2, r3, r4]) rfl ?_
      have HT := Sh.mk (BB.out.trans (hs.1.mono (by omega)))
      exact ⟨_, rfl, by rw [List.take_zero, List.append_nil]; exact HN.out.below HT.out, HT.out⟩
    rw [if_neg h0] at her
    have hn0 : (nb == 0) = false := by simpa using h0
    have hn1 : ((nb : Int) == 0) = false := by simp; omega
    obtain ⟨e, he⟩ : ∃ e, e = base + n := ⟨_, rfl⟩
    have RE := Sh.mk (fun w => r_end A n c base size false dn w e he (by omega))
    rw [← he] at hk her hlim
    by_cases h1 : e = qLim
    · rw [if_pos h1] at her
      obtain rfl : 0 = k := by omega
      obtain rfl : 215 = er := her.symm
      have h1' : (e : Int) = 4611686018427387904 := by unfold qLim at h1; omega
      have h2' : ((e : Int) == 4611686018427387904) = true := by rw [h1']; rfl
      clear hk her hns hsz hlim he h1 h1' h0
      go_enter Try.func28, Try.ntmps28
      go_upto_region 1 with fail
      have KX : Hid (Blk (w.alloc (.cells #[.slice A n c, .int .u64 (base : Int), .int .i64 (size : Int), .bool false, .bool dn] 31)) (w.heap.size) 31 #[.slice A n c, .int .u64 (base : Int), .int .i64 (size : Int), .bool false, .bool dn]) := Lib.hid ((Blk.new w 31 #[.slice A n c, .int .u64 (base : Int), .int .i64 (size : Int), .bool false, .bool dn]))
      replace KX : Hid (Blk ((w.alloc (.cells #[.slice A n c, .int .u64 (base : Int), .int .i64 (size : Int), .bool false, .bool dn] 31)).alloc (.cells #[.slice none 0 0, .int .u64 0, .int .i64 0, .bool false, .bool false] 31)) (w.heap.size) 31 #[.slice A n c, .int .u64 (base : Int), .int .i64 (size : Int), .bool false, .bool dn]) := Lib.hid (KX.out.alloc _)
      have KR : Hid (Blk ((w.alloc (.cells #[.slice A n c, .int .u64 (base : Int), .int .i64 (size : Int), .bool false, .bool dn] 31)).alloc (.cells #[.slice none 0 0, .int .u64 0, .int .i64 0, .bool false, .bool false] 31)) (w.heap.size + 1) 31 #[.slice none 0 0, .int .u64 0, .int .i64 0, .bool false, .bool false]) := Lib.hid ((Blk.new (w.alloc (.cells #[.slice A n c, .int .u64 (base : Int), .int .i64 (size : Int), .bool false, .bool dn] 31)) 31 #[.slice none 0 0, .int .u64 0, .int .i64 0, .bool false, .bool false]) |> fun h => by simpa using h)
      have b1 : Hid (Below w.heap.size w ((w.alloc (.cells #[.slice A n c, .int .u64 (base : Int), .int .i64 (size : Int), .bool false, .bool dn] 31)).alloc (.cells #[.slice none 0 0, .int .u64 0, .int .i64 0, .bool false, .bool false] 31))) := Lib.hid (((Below.refl w.heap.size w).alloc (Nat.le_refl _) (.cells #[.slice A n c, .int .u64 (base : Int), .int .i64 (size : Int), .bool false, .bool dn] 31)).alloc (by simp <;> omega) (.cells #[.slice none 0 0, .int .u64 0, .int .i64 0, .bool false, .bool false] 31))
      have hz : ((w.alloc (.cells #[.slice A n c, .int .u64 (base : Int), .int .i64 (size : Int), .bool false, .bool dn] 31)).alloc (.cells #[.slice none 0 0, .int .u64 0, .int .i64 0, .bool false, .bool false] 31)).heap.size = w.heap.size + 2 := by simp
      generalize ((w.alloc (.cells #[.slice A n c, .int .u64 (base : Int), .int .i64 (size : Int), .bool false, .bool dn] 31)).alloc (.cells #[.slice none 0 0, .int .u64 0, .int .i64 0, .bool false, .bool false] 31)) = w2 at KX KR b1 hz ⊢
      have HZ := Lib.hid hz
      clear hz
      have c0 : w2.cell? ⟨w.heap.size, 0, none⟩ = some (.slice A n c) := by rw [KX.out.cell]; rfl
      have c1 : w2.cell? ⟨w.heap.size, 1, none⟩ = some (.int .u64 (base : Int)) := by rw [KX.out.cell]; rfl
      have c2 : w2.cell? ⟨w.heap.size, 2, none⟩ = some (.int .i64 (size : Int)) := by rw [KX.out.cell]; rfl
      have c3 : w2.cell? ⟨w.heap.size, 3, none⟩ = some (.bool false) := by rw [KX.out.cell]; rfl
      have c4 : w2.cell? ⟨w.heap.size, 4, none⟩ = some (.bool dn) := by rw [KX.out.cell]; rfl
      go_wp2_with fail
      refine (RE.out _).mono ?_
      rintro e' w3 ⟨rfl, b3⟩
      replace b1 := Sh.mk (b1.out.trans (b3.mono (by have := HZ.out; omega)))
      replace KX := Sh.mk (KX.out.below b3 KX.out.lt)
      replace KR := Sh.mk (KR.out.below b3 KR.out.lt)
      replace HZ := Sh.mk (show w.heap.size + 2 ≤ w3.heap.size by have := HZ.out; have := b3.size; omega)
      clear c0 c1 c2 c3 c4 b3
      have c0 : w3.cell? ⟨w.heap.size, 0, none⟩ = some (.slice A n c) := by rw [KX.out.cell]; rfl
      have c1 : w3.cell? ⟨w.heap.size, 1, none⟩ = some (.int .u64 (base : Int)) := by rw [KX.out.cell]; rfl
      have c2 : w3.cell? ⟨w.heap.size, 2, none⟩ = some (.int .i64 (size : Int)) := by rw [KX.out.cell]; rfl
      have c3 : w3.cell? ⟨w.heap.size, 3, none⟩ = some (.bool false) := by rw [KX.out.cell]; rfl
      have c4 : w3.cell? ⟨w.heap.size, 4, none⟩ = some (.bool dn) := by rw [KX.out.cell]; rfl
      have BB := Sh.mk b1.out
      clear b1
      go_wp2_with (refine stm_store (cs' := #[.slice A n c, .int .u64 (base : Int), .int .i64 (size : Int), .bool false, .bool dn]) KR.out rfl _ _ rfl rfl rfl (by simp) (by kernel_rfl) (by simp [Value.oneCell']) (by simp [setL]) fun w9 hk hs => ?_)
      go_wp2_with fail
      have r0 : w9.cell? ⟨(w.heap.size + 1), 0, none⟩ = some (.slice A n c) := by rw [hk.cell]; rfl
      have r1 : w9.cell? ⟨(w.heap.size + 1), 1, none⟩ = some (.int .u64 (base : Int)) := by rw [hk.cell]; rfl
      have r2 : w9.cell? ⟨(w.heap.size + 1), 2, none⟩ = some (.int .i64 (size : Int)) := by rw [hk.cell]; rfl
      have r3 : w9.cell? ⟨(w.heap.size + 1), 3, none⟩ = some (.bool false) := by rw [hk.cell]; rfl
      have r4 : w9.cell? ⟨(w.heap.size + 1), 4, none⟩ = some (.bool dn) := by rw [hk.cell]; rfl
      refine bodyPost_ret (v := .tuple #[.agg #[.slice A n c, .int .u64 (base : Int), .int .i64 (size : Int), .bool false, .bool dn], .int .i64 0, .int .i64 215]) (by simp [results, Try.results28, go_sem, r0, r1, r2, r3, r4]) rfl ?_
      have HT := Sh.mk (BB.out.trans (hs.1.mono (by omega)))
      exact ⟨_, rfl, by rw [List.take_zero, List.append_nil]; exact HN.out.below HT.out, HT.out⟩
    rw [if_neg h1] at her
    have h2' : ((e : Int) == 4611686018427387904) = false := by simp only [beq_eq_false_iff_ne, ne_eq]; unfold qLim at h1; omega
    by_cases h2 : n = size
    · rw [if_pos h2] at her
      obtain rfl : 0 = k := by omega
      obtain rfl : 210 = er := her.symm
      have h3' : ((n : Int) == (size : Int)) = true := by simp; omega
      have h4' : (n == size) = true := by simp; omega
      clear hk her hns hsz hlim he h1 h2 h0
      go_enter Try.func28, Try.ntmps28
      go_upto_region 1 with fail
      have KX : Hid (Blk (w.alloc (.cells #[.slice A n c, .int .u64 (base : Int), .int .i64 (size : Int), .bool false, .bool dn] 31)) (w.heap.size) 31 #[.slice A n c, .int .u64 (base : Int), .int .i64 (size : Int), .bool false, .bool dn]) := Lib.hid ((Blk.new w 31 #[.slice A n c, .int .u64 (base : Int), .int .i64 (size : Int), .bool false, .bool dn]))
      replace KX : Hid (Blk ((w.alloc (.cells #[.slice A n c, .int .u64 (base : Int), .int .i64 (size : Int), .bool false, .bool dn] 31)).alloc (.cells #[.slice none 0 0, .int .u64 0, .int .i64 0, .bool false, .bool false] 31)) (w.heap.size) 31 #[.slice A n c, .int .u64 (base : Int), .int .i64 (size : Int), .bool false, .bool dn]) := Lib.hid (KX.out.alloc _)
      have KR : Hid (Blk ((w.alloc (.cells #[.slice A n c, .int .u64 (base : Int), .int .i64 (size : Int), .bool false, .bool dn] 31)).alloc (.cells #[.slice none 0 0, .int .u64 0, .int .i64 0, .bool false, .bool false] 31)) (w.heap.size + 1) 31 #[.slice none 0 0, .int .u64 0, .int .i64 0, .bool false, .bool false]) := Lib.hid ((Blk.new (w.alloc (.cells #[.slice A n c, .int .u64 (base : Int), .int .i64 (size : Int), .bool false, .bool dn] 31)) 31 #[.slice none 0 0, .int .u64 0, .int .i64 0, .bool false, .bool false]) |> fun h => by simpa using h)
      have b1 : Hid (Below w.heap.size w ((w.alloc (.cells #[.slice A n c, .int .u64 (base : Int), .int .i64 (size : Int), .bool false, .bool dn] 31)).alloc (.cells #[.slice none 0 0, .int .u64 0, .int .i64 0, .bool false, .bool false] 31))) := Lib.hid (((Below.refl w.heap.size w).alloc (Nat.le_refl _) (.cells #[.slice A n c, .int .u64 (base : Int), .int .i64 (size : Int), .bool false, .bool dn] 31)).alloc (by simp <;> omega) (.cells #[.slice none 0 0, .int .u64 0, .int .i64 0, .bool false, .bool false] 31))
      have hz : ((w.alloc (.cells #[.slice A n c, .int .u64 (base : Int), .int .i64 (size : Int), .bool false, .bool dn] 31)).alloc (.cells #[.slice none 0 0, .int .u64 0, .int .i64 0, .bool false, .bool false] 31)).heap.size = w.heap.size + 2 := by simp
      generalize ((w.alloc (.cells #[.slice A n c, .int .u64 (base : Int), .int .i64 (size : Int), .bool false, .bool dn] 31)).alloc (.cells #[.slice none 0 0, .int .u64 0, .int .i64 0, .bool false, .bool false] 31)) = w2 at KX KR b1 hz ⊢
      have HZ := Lib.hid hz
      clear hz
      have c0 : w2.cell? ⟨w.heap.size, 0, none⟩ = some (.slice A n c) := by rw [KX.out.cell]; rfl
      have c1 : w2.cell? ⟨w.heap.size, 1, none⟩ = some (.int .u64 (base : Int)) := by rw [KX.out.cell]; rfl
      have c2 : w2.cell? ⟨w.heap.size, 2, none⟩ = some (.int .i64 (size : Int)) := by rw [KX.out.cell]; rfl
      have c3 : w2.cell? ⟨w.heap.size, 3, none⟩ = some (.bool false) := by rw [KX.out.cell]; rfl
      have c4 : w2.cell? ⟨w.heap.size, 4, none⟩ = some (.bool dn) := by rw [KX.out.cell]; rfl
      go_wp2_with fail
      refine (RE.out _).mono ?_
      rintro e' w3 ⟨rfl, b3⟩
      replace b1 := Sh.mk (b1.out.trans (b3.mono (by have := HZ.out; omega)))
      replace KX := Sh.mk (KX.out.below b3 KX.out.lt)
      replace KR := Sh.mk (KR.out.below b3 KR.out.lt)
      replace HZ := Sh.mk (show w.heap.size + 2 ≤ w3.heap.size by have := HZ.out; have := b3.size; omega)
      clear c0 c1 c2 c3 c4 b3
      have c0 : w3.cell? ⟨w.heap.size, 0, none⟩ = some (.slice A n c) := by rw [KX.out.cell]; rfl
      have c1 : w3.cell? ⟨w.heap.size, 1, none⟩ = some (.int .u64 (base : Int)) := by rw [KX.out.cell]; rfl
      have c2 : w3.cell? ⟨w.heap.size, 2, none⟩ = some (.int .i64 (size : Int)) := by rw [KX.out.cell]; rfl
      have c3 : w3.cell? ⟨w.heap.size, 3, none⟩ = some (.bool false) := by rw [KX.out.cell]; rfl
      have c4 : w3.cell? ⟨w.heap.size, 4, none⟩ = some (.bool dn) := by rw [KX.out.cell]; rfl
      have BB := Sh.mk b1.out
      clear b1
      go_wp2_with (refine stm_store (cs' := #[.slice A n c, .int .u64 (base : Int), .int .i64 (size : Int), .bool false, .bool dn]) KR.out rfl _ _ rfl rfl rfl (by simp) (by kernel_rfl) (by simp [Value.oneCell']) (by simp [setL]) fun w9 hk hs => ?_)
      go_wp2_with fail
      have r0 : w9.cell? ⟨(w.heap.size + 1), 0, none⟩ = some (.slice A n c) := by rw [hk.cell]; rfl
      have r1 : w9.cell? ⟨(w.heap.size + 1), 1, none⟩ = some (.int .u64 (base : Int)) := by rw [hk.cell]; rfl
      have r2 : w9.cell? ⟨(w.heap.size + 1), 2, none⟩ = some (.int .i64 (size : Int)) := by rw [hk.cell]; rfl
      have r3 : w9.cell? ⟨(w.heap.size + 1), 3, none⟩ = some (.bool false) := by rw [hk.cell]; rfl
      have r4 : w9.cell? ⟨(w.heap.size + 1), 4, none⟩ = some (.bool dn) := by rw [hk.cell]; rfl
      refine bodyPost_ret (v := .tuple #[.agg #[.slice A n c, .int .u64 (base : Int), .int .i64 (size : Int), .bool false, .bool dn], .int .i64 0, .int .i64 210]) (by simp [results, Try.results28, go_sem, r0, r1, r2, r3, r4]) rfl ?_
      have HT := Sh.mk (BB.out.trans (hs.1.mono (by omega)))
      exact ⟨_, rfl, by rw [List.take_zero, List.append_nil]; exact HN.out.below HT.out, HT.out⟩
    rw [if_neg h2] at her
    obtain rfl : 0 = er := her.symm
    have h3' : ((n : Int) == (size : Int)) = false := by simp; omega
    have h4' : (n == size) = false := by simp; omega
    obtain ⟨f, hf⟩ : ∃ f, f = size - n := ⟨_, rfl⟩
    obtain ⟨r, hr⟩ : ∃ r, r = qLim - e := ⟨_, rfl⟩
    rw [← hf, ← hr] at hk
    have hw0 : (size : Int) - (n : Int) = (f : Nat) := by omega
    have hw1 : IntKind.i64.wrap (f : Int) = (f : Nat) := by rw [IntKind.wrap_i64]; omega
    have hw2 : IntKind.u64.wrap (f : Int) = (f : Nat) := by rw [IntKind.wrap_u64]; omega
    have hw3 : IntKind.u64.wrap (nb : Int) = (nb : Nat) := by rw [IntKind.wrap_u64]; omega
    have HW4 := Sh.mk (show (4611686018427387904 : Int) - (e : Int) = (r : Nat) by unfold qLim at hr hlim; omega)
    have hw5 : IntKind.u64.wrap (r : Int) = (r : Nat) := by unfold qLim at hr hlim; rw [IntKind.wrap_u64]; omega
    have hw6 : IntKind.i64.wrap (r : Int) = (r : Nat) := by unfold qLim at hr hlim; rw [IntKind.wrap_i64]; omega
    have HSM := Sh.mk (And.intro hns (And.intro hsz (And.intro hmax hnb)))
    clear hlim he h1 h2 hns hf hr her h0
    rcases (show (nb ≤ f ∧ nb ≤ r) ∨ (nb ≤ f ∧ r < nb) ∨ (f < nb ∧ f ≤ r) ∨ (f < nb ∧ r < f) by omega) with ⟨g, g'⟩ | ⟨g, g'⟩ | ⟨g, g'⟩ | ⟨g, g'⟩
    · have g1 : (nb : Int) ≤ (f : Int) := by omega
      have g2 : nb ≤ f := by omega
      have g3 : (nb : Int) ≤ (r : Int) := by omega
      have g4 : nb ≤ r := by omega
      have HK := Sh.mk (show nb ≤ nb ∧ nb = k by omega)
      obtain rfl : nb = k := HK.out.2
      have hkc : (nb : Int) ≤ (cb : Int) := by omega
      have hkc2 : nb ≤ cb := by omega
      have HKN := Sh.mk (show nb ≤ nb by omega)
      have HN6 := Sh.mk (show bs.length ≤ 65536 by have := HNN.out; omega)
      have hs1 : ∀ w, (Instr.slice 29 (.slice A2 nb cb) none (some (.int .i64 (nb : Int))) none).run Try.prog w = .ok (.slice A2 nb cb) w := fun w => run_cut_h elB A2 nb cb nb hkc2 w
      have HU := Sh.mk (show Try.prog.underlying 29 = some (.slice (Try.prog.elem 29)) by unfold Program.elem; rw [Try.underlying29])
      have hs2 : ∀ w, (Instr.sliceAt 29 (.slice A2 nb cb) none (some (.int .i64 (nb : Int))) none).run Try.prog w = .ok (.slice A2 nb cb) w := fun w => (run_sliceAt_slice w _ _ _ _ _ HU.out).trans (hs1 w)
      clear hk hsz hkc hkc2
      go_enter Try.func28, Try.ntmps28
      go_upto_region 1 with fail
      have KX : Hid (Blk (w.alloc (.cells #[.slice A n c, .int .u64 (base : Int), .int .i64 (size : Int), .bool false, .bool dn] 31)) (w.heap.size) 31 #[.slice A n c, .int .u64 (base : Int), .int .i64 (size : Int), .bool false, .bool dn]) := Lib.hid ((Blk.new w 31 #[.slice A n c, .int .u64 (base : Int), .int .i64 (size : Int), .bool false, .bool dn]))
      replace KX : Hid (Blk ((w.alloc (.cells #[.slice A n c, .int .u64 (base : Int), .int .i64 (size : Int), .bool false, .bool dn] 31)).alloc (.cells #[.slice none 0 0, .int .u64 0, .int .i64 0, .bool false, .bool false] 31)) (w.heap.size) 31 #[.slice A n c, .int .u64 (base : Int), .int .i64 (size : Int), .bool false, .bool dn]) := Lib.hid (KX.out.alloc _)
      have KR : Hid (Blk ((w.alloc (.cells #[.slice A n c, .int .u64 (base : Int), .int .i64 (size : Int), .bool false, .bool dn] 31)).alloc (.cells #[.slice none 0 0, .int .u64 0, .int .i64 0, .bool false, .bool false] 31)) (w.heap.size + 1) 31 #[.slice none 0 0, .int .u64 0, .int .i64 0, .bool false, .bool false]) := Lib.hid ((Blk.new (w.alloc (.cells #[.slice A n c, .int .u64 (base : Int), .int .i64 (size : Int), .bool false, .bool dn] 31)) 31 #[.slice none 0 0, .int .u64 0, .int .i64 0, .bool false, .bool false]) |> fun h => by simpa using h)
      have b1 : Hid (Below w.heap.size w ((w.alloc (.cells #[.slice A n c, .int .u64 (base : Int), .int .i64 (size : Int), .bool false, .bool dn] 31)).alloc (.cells #[.slice none 0 0, .int .u64 0, .int .i64 0, .bool false, .bool false] 31))) := Lib.hid (((Below.refl w.heap.size w).alloc (Nat.le_refl _) (.cells #[.slice A n c, .int .u64 (base : Int), .int .i64 (size : Int), .bool false, .bool dn] 31)).alloc (by simp <;> omega) (.cells #[.slice none 0 0, .int .u64 0, .int .i64 0, .bool false, .bool false] 31))
      have hz : ((w.alloc (.cells #[.slice A n c, .int .u64 (base : Int), .int .i64 (size : Int), .bool false, .bool dn] 31)).alloc (.cells #[.slice none 0 0, .int .u64 0, .int .i64 0, .bool false, .bool false] 31)).heap.size = w.heap.size + 2 := by simp
      generalize ((w.alloc (.cells #[.slice A n c, .int .u64 (base : Int), .int .i64 (size : Int), .bool false, .bool dn] 31)).alloc (.cells #[.slice none 0 0, .int .u64 0, .int .i64 0, .bool false, .bool false] 31)) = w2 at KX KR b1 hz ⊢
      have HZ := Lib.hid hz
      clear hz
      have c0 : w2.cell? ⟨w.heap.size, 0, none⟩ = some (.slice A n c) := by rw [KX.out.cell]; rfl
      have c1 : w2.cell? ⟨w.heap.size, 1, none⟩ = some (.int .u64 (base : Int)) := by rw [KX.out.cell]; rfl
      have c2 : w2.cell? ⟨w.heap.size, 2, none⟩ = some (.int .i64 (size : Int)) := by rw [KX.out.cell]; rfl
      have c3 : w2.cell? ⟨w.heap.size, 3, none⟩ = some (.bool false) := by rw [KX.out.cell]; rfl
      have c4 : w2.cell? ⟨w.heap.size, 4, none⟩ = some (.bool dn) := by rw [KX.out.cell]; rfl
      go_wp2_with fail
      refine (RE.out _).mono ?_
      rintro e' w3 ⟨rfl, b3⟩
      replace b1 := Sh.mk (b1.out.trans (b3.mono (by have := HZ.out; omega)))
      replace KX := Sh.mk (KX.out.below b3 KX.out.lt)
      replace KR := Sh.mk (KR.out.below b3 KR.out.lt)
      replace HZ := Sh.mk (show w.heap.size + 2 ≤ w3.heap.size by have := HZ.out; have := b3.size; omega)
      clear c0 c1 c2 c3 c4 b3
      have c0 : w3.cell? ⟨w.heap.size, 0, none⟩ = some (.slice A n c) := by rw [KX.out.cell]; rfl
      have c1 : w3.cell? ⟨w.heap.size, 1, none⟩ = some (.int .u64 (base : Int)) := by rw [KX.out.cell]; rfl
      have c2 : w3.cell? ⟨w.heap.size, 2, none⟩ = some (.int .i64 (size : Int)) := by rw [KX.out.cell]; rfl
      have c3 : w3.cell? ⟨w.heap.size, 3, none⟩ = some (.bool false) := by rw [KX.out.cell]; rfl
      have c4 : w3.cell? ⟨w.heap.size, 4, none⟩ = some (.bool dn) := by rw [KX.out.cell]; rfl
      have hw4 := HW4.out
      go_wp2_with fail
      refine (RE.out _).mono ?_
      rintro e' w4 ⟨rfl, b3⟩
      replace b1 := Sh.mk (b1.out.trans (b3.mono (by have := HZ.out; omega)))
      replace KX := Sh.mk (KX.out.below b3 KX.out.lt)
      replace KR := Sh.mk (KR.out.below b3 KR.out.lt)
      replace HZ := Sh.mk (show w.heap.size + 2 ≤ w4.heap.size by have := HZ.out; have := b3.size; omega)
      clear c0 c1 c2 c3 c4 b3
      have c0 : w4.cell? ⟨w.heap.size, 0, none⟩ = some (.slice A n c) := by rw [KX.out.cell]; rfl
      have c1 : w4.cell? ⟨w.heap.size, 1, none⟩ = some (.int .u64 (base : Int)) := by rw [KX.out.cell]; rfl
      have c2 : w4.cell? ⟨w.heap.size, 2, none⟩ = some (.int .i64 (size : Int)) := by rw [KX.out.cell]; rfl
      have c3 : w4.cell? ⟨w.heap.size, 3, none⟩ = some (.bool false) := by rw [KX.out.cell]; rfl
      have c4 : w4.cell? ⟨w.heap.size, 4, none⟩ = some (.bool dn) := by rw [KX.out.cell]; rfl
      go_upto_region 14 with fail
      clear hw4
      refine wp_ord [(1, .pure), (2, .read), (4, .pure), (5, .pure), (6, .pure), (0, .sole), (3, .sole), (7, .sole), (8, .pure), (9, .sole)] [3, 7, 9] (by kernel_rfl) (by kernel_rfl) (fun QQ hQ wd hwd => ?_); simp only [List.map_cons, List.map_nil, List.getD_cons_zero, List.getD_cons_succ]
      have hD : Below w4.heap.size w4 wd := by rw [hwd.out]; exact (Below.refl _ _).drew
      replace b1 := Sh.mk (b1.out.trans (hD.mono (by have := HZ.out; omega)))
      replace KX := Sh.mk (KX.out.below hD KX.out.lt)
      replace KR := Sh.mk (KR.out.below hD KR.out.lt)
      have HZ0 := Sh.mk (show w.heap.size + 2 ≤ wd.heap.size by have := HZ.out; have := hD.size; omega)
      clear hD hwd c0 c1 c2 c3 c4
      have c0 : wd.cell? ⟨w.heap.size, 0, none⟩ = some (.slice A n c) := by rw [KX.out.cell]; rfl
      have HX6 := Sh.mk (show Rd wd w.heap.size 1 A n (ns .u8 bs) from (HN.out.rd.re HNN.out).below b1.out)
      have HR6 := Sh.mk (show Rd wd w.heap.size 1 A2 nb (ns .u8 (l.take nb)) from (HR.out.below b1.out).takeN HKN.out)
      (refine o_pure (v := ?_) (by rfl) (fun w' => ?_) ?_; rotate_left; (focus (go_simp; (try with_reducible rfl); (try (rw [if_pos (by omega)]; (try with_reducible rfl))))); (try simp only [Act.put, List.setIfInBounds_toArray, List.set_cons_zero, List.set_cons_succ]))
      (refine o_load _ (by rfl) rfl rfl (by assumption) (by kernel_rfl) ?_; simp only [Act.put, List.setIfInBounds_toArray, List.set_cons_zero, List.set_cons_succ])
      (refine o_pure (v := ?_) (by rfl) (fun w' => ?_) ?_; rotate_left; (focus (go_simp; (try with_reducible rfl); (try (rw [if_pos (by omega)]; (try with_reducible rfl))))); (try simp only [Act.put, List.setIfInBounds_toArray, List.set_cons_zero, List.set_cons_succ]))
      (refine o_pure (v := ?_) (by rfl) (fun w' => ?_) ?_; rotate_left; (focus (go_simp; (try with_reducible rfl); (try (rw [if_pos (by omega)]; (try with_reducible rfl))))); (try simp only [Act.put, List.setIfInBounds_toArray, List.set_cons_zero, List.set_cons_succ]))
      (refine o_pure (v := ?_) (by rfl) (fun w' => ?_) ?_; rotate_left; (focus (go_simp; (try with_reducible rfl); (try (rw [if_pos (by omega)]; (try with_reducible rfl))))); (try simp only [Act.put, List.setIfInBounds_toArray, List.set_cons_zero, List.set_cons_succ]))
      refine o_sole (fun K hK => ?_)
      go_wp2_with fail
      refine hK _ _ (fun _ => Ext.of ((Below.refl _ _).alloc (Nat.le_refl _) _)) ?_; clear hK K
      refine o_sole (fun K hK => ?_)
      refine appn elB rfl (.tmp 52) (.tmp 54) rfl rfl (Nats.lit0 (B := wd.heap.size) wd 5 .u8 (Nat.le_refl _)) rfl (HX6.out.alloc (by have := HZ0.out; omega) _) (room_ge (by have := HN6.out; rw [List.length_nil]; omega)) (by simp) ?_
      intro v5 w6 hv6 _ hb6
      have hb6' : Below wd.heap.size wd w6 := ((Below.refl _ _).alloc (Nat.le_refl _) _).trans hb6
      have HV6 := Sh.mk (show Nats w6 5 .u8 wd.heap.size v5 bs by simpa using hv6)
      have HB6 := Sh.mk hb6'
      have HB6s := Sh.mk hb6'.size
      obtain ⟨A5, n5, c5, rfl, _, _, _⟩ := HV6.out.out
      refine wpList_nil ?_
      refine hK _ _ (fun h => by cases h) ?_; clear hK K
      refine o_sole (fun K hK => ?_)
      refine appn elB rfl (.tmp 55) (.tmp 58) rfl rfl HV6.out rfl ((HR6.out.below (HB6.out.mono (by have := HZ0.out; omega)))) (room_ge (by have := HN6.out; have := HNL.out; have := HKN.out; have := HSM.out.2.2.1; rw [List.length_take]; omega)) HB6s.out ?_
      intro v7 w7 hv7 _ hb7
      replace b1 := Sh.mk (b1.out.trans ((HB6.out.trans hb7).mono (by have := HZ0.out; omega)))
      replace KX := Sh.mk (KX.out.below (HB6.out.trans hb7) KX.out.lt)
      replace KR := Sh.mk (KR.out.below (HB6.out.trans hb7) KR.out.lt)
      have HV := Sh.mk (hv7.mono HZ0.out)
      obtain ⟨A8, n8, c8, rfl, _, _, _⟩ := HV.out.out
      refine wpList_nil ?_
      refine hK _ _ (fun h => by cases h) ?_; clear hK K
      clear c0 hv7 hb7 hv6 hb6 hb6' HB6 HX6 HR6 HV6 HB6s HZ0 HZ
      (refine o_pure (v := ?_) (by rfl) (fun w' => ?_) ?_; rotate_left; (focus (go_simp; (try with_reducible rfl); (try (rw [if_pos (by omega)]; (try with_reducible rfl))))); (try simp only [Act.put, List.setIfInBounds_toArray, List.set_cons_zero, List.set_cons_succ]))
      refine o_sole (fun K hK => ?_)
      have c0 : w7.cell? ⟨w.heap.size, 0, none⟩ = some (.slice A n c) := by rw [KX.out.cell]; rfl
      have hfz0 := KX.out.frozen 0
      go_wp2_with fail
      have hs8 : Solo w.heap.size w7 (w7.setCell ⟨w.heap.size, 0, none⟩ (.slice A8 n8 c8)) := Solo.refl.setCell 0 _
      replace KX := Sh.mk (show Blk _ _ _ #[.slice A8 n8 c8, .int .u64 (base : Int), .int .i64 (size : Int), .bool false, .bool dn] from KX.out.set 0 (.slice A8 n8 c8))
      replace KR := Sh.mk (hs8.blk KR.out (by omega))
      replace b1 := Sh.mk (b1.out.trans (hs8.1.mono (Nat.le_refl _)))
      replace HV := Sh.mk (HV.out.kept (w' := w7.setCell ⟨w.heap.size, 0, none⟩ (.slice A8 n8 c8)) fun i hi => hs8.2.2 i (by have h := (HV.out.lt i hi).1; omega))
      refine hK _ _ (fun h => by cases h) ?_; clear hK K
      generalize w7.setCell ⟨w.heap.size, 0, none⟩ (.slice A8 n8 c8) = w9 at KX KR b1 HV ⊢
      clear hs8 hfz0 c0
      refine o_nil (hQ.out _ _ ?_); clear hQ QQ
      have c0 : w9.cell? ⟨w.heap.size, 0, none⟩ = some (.slice A8 n8 c8) := by rw [KX.out.cell]; rfl
      have c1 : w9.cell? ⟨w.heap.size, 1, none⟩ = some (.int .u64 (base : Int)) := by rw [KX.out.cell]; rfl
      have c2 : w9.cell? ⟨w.heap.size, 2, none⟩ = some (.int .i64 (size : Int)) := by rw [KX.out.cell]; rfl
      have c3 : w9.cell? ⟨w.heap.size, 3, none⟩ = some (.bool false) := by rw [KX.out.cell]; rfl
      have c4 : w9.cell? ⟨w.heap.size, 4, none⟩ = some (.bool dn) := by rw [KX.out.cell]; rfl
      go_wp2_with (refine stm_store (cs' := #[.slice A8 n8 c8, .int .u64 (base : Int), .int .i64 (size : Int), .bool false, .bool dn]) KR.out rfl _ _ rfl rfl rfl (by simp) (by kernel_rfl) (by simp [Value.oneCell']) (by simp [setL]) fun wb hk hs => ?_)
      go_wp2_with fail
      have r0 : wb.cell? ⟨(w.heap.size + 1), 0, none⟩ = some (.slice A8 n8 c8) := by rw [hk.cell]; rfl
      have r1 : wb.cell? ⟨(w.heap.size + 1), 1, none⟩ = some (.int .u64 (base : Int)) := by rw [hk.cell]; rfl
      have r2 : wb.cell? ⟨(w.heap.size + 1), 2, none⟩ = some (.int .i64 (size : Int)) := by rw [hk.cell]; rfl
      have r3 : wb.cell? ⟨(w.heap.size + 1), 3, none⟩ = some (.bool false) := by rw [hk.cell]; rfl
      have r4 : wb.cell? ⟨(w.heap.size + 1), 4, none⟩ = some (.bool dn) := by rw [hk.cell]; rfl
      refine bodyPost_ret (v := .tuple #[.agg #[.slice A8 n8 c8, .int .u64 (base : Int), .int .i64 (size : Int), .bool false, .bool dn], .int .i64 (nb : Int), .int .i64 0]) (by simp [results, Try.results28, go_sem, r0, r1, r2, r3, r4]) rfl ?_
      exact ⟨_, rfl, (HV.out.kept (w' := wb) fun i hi => hs.2.2 i (by have h := (HV.out.lt i hi).1; omega)).mono (by have := HBS.out; omega), b1.out.trans (hs.1.mono (by omega))⟩
    · have g1 : (nb : Int) ≤ (f : Int) := by omega
      have g2 : nb ≤ f := by omega
      have g3 : (r : Int) < (nb : Int) := by omega
      have g4 : r < nb := by omega
      have HK := Sh.mk (show r ≤ nb ∧ r = k by omega)
      obtain rfl : r = k := HK.out.2
      have hkc : (r : Int) ≤ (cb : Int) := by omega
      have hkc2 : r ≤ cb := by omega
      have HKN := Sh.mk (show r ≤ nb by omega)
      have HN6 := Sh.mk (show bs.length ≤ 65536 by have := HNN.out; omega)
      have hs1 : ∀ w, (Instr.slice 29 (.slice A2 nb cb) none (some (.int .i64 (r : Int))) none).run Try.prog w = .ok (.slice A2 r cb) w := fun w => run_cut_h elB A2 nb cb r hkc2 w
      have HU := Sh.mk (show Try.prog.underlying 29 = some (.slice (Try.prog.elem 29)) by unfold Program.elem; rw [Try.underlying29])
      have hs2 : ∀ w, (Instr.sliceAt 29 (.slice A2 nb cb) none (some (.int .i64 (r : Int))) none).run Try.prog w = .ok (.slice A2 r cb) w := fun w => (run_sliceAt_slice w _ _ _ _ _ HU.out).trans (hs1 w)
      clear hk hsz hkc hkc2
      go_enter Try.func28, Try.ntmps28
      go_upto_region 1 with fail
      have KX : Hid (Blk (w.alloc (.cells #[.slice A n c, .int .u64 (base : Int), .int .i64 (size : Int), .bool false, .bool dn] 31)) (w.heap.size) 31 #[.slice A n c, .int .u64 (base : Int), .int .i64 (size : Int), .bool false, .bool dn]) := Lib.hid ((Blk.new w 31 #[.slice A n c, .int .u64 (base : Int), .int .i64 (size : Int), .bool false, .bool dn]))
      replace KX : Hid (Blk ((w.alloc (.cells #[.slice A n c, .int .u64 (base : Int), .int .i64 (size : Int), .bool false, .bool dn] 31)).alloc (.cells #[.slice none 0 0, .int .u64 0, .int .i64 0, .bool false, .bool false] 31)) (w.heap.size) 31 #[.slice A n c, .int .u64 (base : Int), .int .i64 (size : Int), .bool false, .bool dn]) := Lib.hid (KX.out.alloc _)
      have KR : Hid (Blk ((w.alloc (.cells #[.slice A n c, .int .u64 (base : Int), .int .i64 (size : Int), .bool false, .bool dn] 31)).alloc (.cells #[.slice none 0 0, .int .u64 0, .int .i64 0, .bool false, .bool false] 31)) (w.heap.size + 1) 31 #[.slice none 0 0, .int .u64 0, .int .i64 0, .bool false, .bool false]) := Lib.hid ((Blk.new (w.alloc (.cells #[.slice A n c, .int .u64 (base : Int), .int .i64 (size : Int), .bool false, .bool dn] 31)) 31 #[.slice none 0 0, .int .u64 0, .int .i64 0, .bool false, .bool false]) |> fun h => by simpa using h)
      have b1 : Hid (Below w.heap.size w ((w.alloc (.cells #[.slice A n c, .int .u64 (base : Int), .int .i64 (size : Int), .bool false, .bool dn] 31)).alloc (.cells #[.slice none 0 0, .int .u64 0, .int .i64 0, .bool false, .bool false] 31))) := Lib.hid (((Below.refl w.heap.size w).alloc (Nat.le_refl _) (.cells #[.slice A n c, .int .u64 (base : Int), .int .i64 (size : Int), .bool false, .bool dn] 31)).alloc (by simp <;> omega) (.cells #[.slice none 0 0, .int .u64 0, .int .i64 0, .bool false, .bool false] 31))
      have hz : ((w.alloc (.cells #[.slice A n c, .int .u64 (base : Int), .int .i64 (size : Int), .bool false, .bool dn] 31)).alloc (.cells #[.slice none 0 0, .int .u64 0, .int .i64 0, .bool false, .bool false] 31)).heap.size = w.heap.size + 2 := by simp
      generalize ((w.alloc (.cells #[.slice A n c, .int .u64 (base : Int), .int .i64 (size : Int), .bool false, .bool dn] 31)).alloc (.cells #[.slice none 0 0, .int .u64 0, .int .i64 0, .bool false, .bool false] 31)) = w2 at KX KR b1 hz ⊢
      have HZ := Lib.hid hz
      clear hz
      have c0 : w2.cell? ⟨w.heap.size, 0, none⟩ = some (.slice A n c) := by rw [KX.out.cell]; rfl
      have c1 : w2.cell? ⟨w.heap.size, 1, none⟩ = some (.int .u64 (base : Int)) := by rw [KX.out.cell]; rfl
      have c2 : w2.cell? ⟨w.heap.size, 2, none⟩ = some (.int .i64 (size : Int)) := by rw [KX.out.cell]; rfl
      have c3 : w2.cell? ⟨w.heap.size, 3, none⟩ = some (.bool false) := by rw [KX.out.cell]; rfl
      have c4 : w2.cell? ⟨w.heap.size, 4, none⟩ = some (.bool dn) := by rw [KX.out.cell]; rfl
      go_wp2_with fail
      refine (RE.out _).mono ?_
      rintro e' w3 ⟨rfl, b3⟩
      replace b1 := Sh.mk (b1.out.trans (b3.mono (by have := HZ.out; omega)))
      replace KX := Sh.mk (KX.out.below b3 KX.out.lt)
      replace KR := Sh.mk (KR.out.below b3 KR.out.lt)
      replace HZ := Sh.mk (show w.heap.size + 2 ≤ w3.heap.size by have := HZ.out; have := b3.size; omega)
      clear c0 c1 c2 c3 c4 b3
      have c0 : w3.cell? ⟨w.heap.size, 0, none⟩ = some (.slice A n c) := by rw [KX.out.cell]; rfl
      have c1 : w3.cell? ⟨w.heap.size, 1, none⟩ = some (.int .u64 (base : Int)) := by rw [KX.out.cell]; rfl
      have c2 : w3.cell? ⟨w.heap.size, 2, none⟩ = some (.int .i64 (size : Int)) := by rw [KX.out.cell]; rfl
      have c3 : w3.cell? ⟨w.heap.size, 3, none⟩ = some (.bool false) := by rw [KX.out.cell]; rfl
      have c4 : w3.cell? ⟨w.heap.size, 4, none⟩ = some (.bool dn) := by rw [KX.out.cell]; rfl
      have hw4 := HW4.out
      go_wp2_with fail
      refine (RE.out _).mono ?_
      rintro e' w4 ⟨rfl, b3⟩
      replace b1 := Sh.mk (b1.out.trans (b3.mono (by have := HZ.out; omega)))
      replace KX := Sh.mk (KX.out.below b3 KX.out.lt)
      replace KR := Sh.mk (KR.out.below b3 KR.out.lt)
      replace HZ := Sh.mk (show w.heap.size + 2 ≤ w4.heap.size by have := HZ.out; have := b3.size; omega)
      clear c0 c1 c2 c3 c4 b3
      have c0 : w4.cell? ⟨w.heap.size, 0, none⟩ = some (.slice A n c) := by rw [KX.out.cell]; rfl
      have c1 : w4.cell? ⟨w.heap.size, 1, none⟩ = some (.int .u64 (base : Int)) := by rw [KX.out.cell]; rfl
      have c2 : w4.cell? ⟨w.heap.size, 2, none⟩ = some (.int .i64 (size : Int)) := by rw [KX.out.cell]; rfl
      have c3 : w4.cell? ⟨w.heap.size, 3, none⟩ = some (.bool false) := by rw [KX.out.cell]; rfl
      have c4 : w4.cell? ⟨w.heap.size, 4, none⟩ = some (.bool dn) := by rw [KX.out.cell]; rfl
      go_wp2_with fail
      refine (RE.out _).mono ?_
      rintro e' w5 ⟨rfl, b3⟩
      replace b1 := Sh.mk (b1.out.trans (b3.mono (by have := HZ.out; omega)))
      replace KX := Sh.mk (KX.out.below b3 KX.out.lt)
      replace KR := Sh.mk (KR.out.below b3 KR.out.lt)
      replace HZ := Sh.mk (show w.heap.size + 2 ≤ w5.heap.size by have := HZ.out; have := b3.size; omega)
      clear c0 c1 c2 c3 c4 b3
      have c0 : w5.cell? ⟨w.heap.size, 0, none⟩ = some (.slice A n c) := by rw [KX.out.cell]; rfl
      have c1 : w5.cell? ⟨w.heap.size, 1, none⟩ = some (.int .u64 (base : Int)) := by rw [KX.out.cell]; rfl
      have c2 : w5.cell? ⟨w.heap.size, 2, none⟩ = some (.int .i64 (size : Int)) := by rw [KX.out.cell]; rfl
      have c3 : w5.cell? ⟨w.heap.size, 3, none⟩ = some (.bool false) := by rw [KX.out.cell]; rfl
      have c4 : w5.cell? ⟨w.heap.size, 4, none⟩ = some (.bool dn) := by rw [KX.out.cell]; rfl
      go_upto_region 14 with fail
      clear hw4
      refine wp_ord [(1, .pure), (2, .read), (4, .pure), (5, .pure), (6, .pure), (0, .sole), (3, .sole), (7, .sole), (8, .pure), (9, .sole)] [3, 7, 9] (by kernel_rfl) (by kernel_rfl) (fun QQ hQ wd hwd => ?_); simp only [List.map_cons, List.map_nil, List.getD_cons_zero, List.getD_cons_succ]
      have hD : Below w5.heap.size w5 wd := by rw [hwd.out]; exact (Below.refl _ _).drew
      replace b1 := Sh.mk (b1.out.trans (hD.mono (by have := HZ.out; omega)))
      replace KX := Sh.mk (KX.out.below hD KX.out.lt)
      replace KR := Sh.mk (KR.out.below hD KR.out.lt)
      have HZ0 := Sh.mk (show w.heap.size + 2 ≤ wd.heap.size by have := HZ.out; have := hD.size; omega)
      clear hD hwd c0 c1 c2 c3 c4
      have c0 : wd.cell? ⟨w.heap.size, 0, none⟩ = some (.slice A n c) := by rw [KX.out.cell]; rfl
      have HX6 := Sh.mk (show Rd wd w.heap.size 1 A n (ns .u8 bs) from (HN.out.rd.re HNN.out).below b1.out)
      have HR6 := Sh.mk (show Rd wd w.heap.size 1 A2 r (ns .u8 (l.take r)) from (HR.out.below b1.out).takeN HKN.out)
      (refine o_pure (v := ?_) (by rfl) (fun w' => ?_) ?_; rotate_left; (focus (go_simp; (try with_reducible rfl); (try (rw [if_pos (by omega)]; (try with_reducible rfl))))); (try simp only [Act.put, List.setIfInBounds_toArray, List.set_cons_zero, List.set_cons_succ]))
      (refine o_load _ (by rfl) rfl rfl (by assumption) (by kernel_rfl) ?_; simp only [Act.put, List.setIfInBounds_toArray, List.set_cons_zero, List.set_cons_succ])
      (refine o_pure (v := ?_) (by rfl) (fun w' => ?_) ?_; rotate_left; (focus (go_simp; (try with_reducible rfl); (try (rw [if_pos (by omega)]; (try with_reducible rfl))))); (try simp only [Act.put, List.setIfInBounds_toArray, List.set_cons_zero, List.set_cons_succ]))
      (refine o_pure (v := ?_) (by rfl) (fun w' => ?_) ?_; rotate_left; (focus (go_simp; (try with_reducible rfl); (try (rw [if_pos (by omega)]; (try with_reducible rfl))))); (try simp only [Act.put, List.setIfInBounds_toArray, List.set_cons_zero, List.set_cons_succ]))
      (refine o_pure (v := ?_) (by rfl) (fun w' => ?_) ?_; rotate_left; (focus (go_simp; (try with_reducible rfl); (try (rw [if_pos (by omega)]; (try with_reducible rfl))))); (try simp only [Act.put, List.setIfInBounds_toArray, List.set_cons_zero, List.set_cons_succ]))
      refine o_sole (fun K hK => ?_)
      go_wp2_with fail
      refine hK _ _ (fun _ => Ext.of ((Below.refl _ _).alloc (Nat.le_refl _) _)) ?_; clear hK K
      refine o_sole (fun K hK => ?_)
      refine appn elB rfl (.tmp 52) (.tmp 54) rfl rfl (Nats.lit0 (B := wd.heap.size) wd 5 .u8 (Nat.le_refl _)) rfl (HX6.out.alloc (by have := HZ0.out; omega) _) (room_ge (by have := HN6.out; rw [List.length_nil]; omega)) (by simp) ?_
      intro v5 w6 hv6 _ hb6
      have hb6' : Below wd.heap.size wd w6 := ((Below.refl _ _).alloc (Nat.le_refl _) _).trans hb6
      have HV6 := Sh.mk (show Nats w6 5 .u8 wd.heap.size v5 bs by simpa using hv6)
      have HB6 := Sh.mk hb6'
      have HB6s := Sh.mk hb6'.size
      obtain ⟨A5, n5, c5, rfl, _, _, _⟩ := HV6.out.out
      refine wpList_nil ?_
      refine hK _ _ (fun h => by cases h) ?_; clear hK K
      refine o_sole (fun K hK => ?_)
      refine appn elB rfl (.tmp 55) (.tmp 58) rfl rfl HV6.out rfl ((HR6.out.below (HB6.out.mono (by have := HZ0.out; omega)))) (room_ge (by have := HN6.out; have := HNL.out; have := HKN.out; have := HSM.out.2.2.1; rw [List.length_take]; omega)) HB6s.out ?_
      intro v7 w7 hv7 _ hb7
      replace b1 := Sh.mk (b1.out.trans ((HB6.out.trans hb7).mono (by have := HZ0.out; omega)))
      replace KX := Sh.mk (KX.out.below (HB6.out.trans hb7) KX.out.lt)
      replace KR := Sh.mk (KR.out.below (HB6.out.trans hb7) KR.out.lt)
      have HV := Sh.mk (hv7.mono HZ0.out)
      obtain ⟨A8, n8, c8, rfl, _, _, _⟩ := HV.out.out
      refine wpList_nil ?_
      refine hK _ _ (fun h => by cases h) ?_; clear hK K
      clear c0 hv7 hb7 hv6 hb6 hb6' HB6 HX6 HR6 HV6 HB6s HZ0 HZ
      (refine o_pure (v := ?_) (by rfl) (fun w' => ?_) ?_; rotate_left; (focus (go_simp; (try with_reducible rfl); (try (rw [if_pos (by omega)]; (try with_reducible rfl))))); (try simp only [Act.put, List.setIfInBounds_toArray, List.set_cons_zero, List.set_cons_succ]))
      refine o_sole (fun K hK => ?_)
      have c0 : w7.cell? ⟨w.heap.size, 0, none⟩ = some (.slice A n c) := by rw [KX.out.cell]; rfl
      have hfz0 := KX.out.frozen 0
      go_wp2_with fail
      have hs8 : Solo w.heap.size w7 (w7.setCell ⟨w.heap.size, 0, none⟩ (.slice A8 n8 c8)) := Solo.refl.setCell 0 _
      replace KX := Sh.mk (show Blk _ _ _ #[.slice A8 n8 c8, .int .u64 (base : Int), .int .i64 (size : Int), .bool false, .bool dn] from KX.out.set 0 (.slice A8 n8 c8))
      replace KR := Sh.mk (hs8.blk KR.out (by omega))
      replace b1 := Sh.mk (b1.out.trans (hs8.1.mono (Nat.le_refl _)))
      replace HV := Sh.mk (HV.out.kept (w' := w7.setCell ⟨w.heap.size, 0, none⟩ (.slice A8 n8 c8)) fun i hi => hs8.2.2 i (by have h := (HV.out.lt i hi).1; omega))
      refine hK _ _ (fun h => by cases h) ?_; clear hK K
      generalize w7.setCell ⟨w.heap.size, 0, none⟩ (.slice A8 n8 c8) = w9 at KX KR b1 HV ⊢
      clear hs8 hfz0 c0
      refine o_nil (hQ.out _ _ ?_); clear hQ QQ
      have c0 : w9.cell? ⟨w.heap.size, 0, none⟩ = some (.slice A8 n8 c8) := by rw [KX.out.cell]; rfl
      have c1 : w9.cell? ⟨w.heap.size, 1, none⟩ = some (.int .u64 (base : Int)) := by rw [KX.out.cell]; rfl
      have c2 : w9.cell? ⟨w.heap.size, 2, none⟩ = some (.int .i64 (size : Int)) := by rw [KX.out.cell]; rfl
      have c3 : w9.cell? ⟨w.heap.size, 3, none⟩ = some (.bool false) := by rw [KX.out.cell]; rfl
      have c4 : w9.cell? ⟨w.heap.size, 4, none⟩ = some (.bool dn) := by rw [KX.out.cell]; rfl
      go_wp2_with (refine stm_store (cs' := #[.slice A8 n8 c8, .int .u64 (base : Int), .int .i64 (size : Int), .bool false, .bool dn]) KR.out rfl _ _ rfl rfl rfl (by simp) (by kernel_rfl) (by simp [Value.oneCell']) (by simp [setL]) fun wb hk hs => ?_)
      go_wp2_with fail
      have r0 : wb.cell? ⟨(w.heap.size + 1), 0, none⟩ = some (.slice A8 n8 c8) := by rw [hk.cell]; rfl
      have r1 : wb.cell? ⟨(w.heap.size + 1), 1, none⟩ = some (.int .u64 (base : Int)) := by rw [hk.cell]; rfl
      have r2 : wb.cell? ⟨(w.heap.size + 1), 2, none⟩ = some (.int .i64 (size : Int)) := by rw [hk.cell]; rfl
      have r3 : wb.cell? ⟨(w.heap.size + 1), 3, none⟩ = some (.bool false) := by rw [hk.cell]; rfl
      have r4 : wb.cell? ⟨(w.heap.size + 1), 4, none⟩ = some (.bool dn) := by rw [hk.cell]; rfl
      refine bodyPost_ret (v := .tuple #[.agg #[.slice A8 n8 c8, .int .u64 (base : Int), .int .i64 (size : Int), .bool false, .bool dn], .int .i64 (r : Int), .int .i64 0]) (by simp [results, Try.results28, go_sem, r0, r1, r2, r3, r4]) rfl ?_
      exact ⟨_, rfl, (HV.out.kept (w' := wb) fun i hi => hs.2.2 i (by have h := (HV.out.lt i hi).1; omega)).mono (by have := HBS.out; omega), b1.out.trans (hs.1.mono (by omega))⟩
    · have g1 : (f : Int) < (nb : Int) := by omega
      have g2 : f < nb := by omega
      have g3 : (f : Int) ≤ (r : Int) := by omega
      have g4 : f ≤ r := by omega
      have HK := Sh.mk (show f ≤ nb ∧ f = k by omega)
      obtain rfl : f = k := HK.out.2
      have hkc : (f : Int) ≤ (cb : Int) := by omega
      have hkc2 : f ≤ cb := by omega
      have HKN := Sh.mk (show f ≤ nb by omega)
      have HN6 := Sh.mk (show bs.length ≤ 65536 by have := HNN.out; omega)
      have hs1 : ∀ w, (Instr.slice 29 (.slice A2 nb cb) none (some (.int .i64 (f : Int))) none).run Try.prog w = .ok (.slice A2 f cb) w := fun w => run_cut_h elB A2 nb cb f hkc2 w
      have HU := Sh.mk (show Try.prog.underlying 29 = some (.slice (Try.prog.elem 29)) by unfold Program.elem; rw [Try.underlying29])
      have hs2 : ∀ w, (Instr.sliceAt 29 (.slice A2 nb cb) none (some (.int .i64 (f : Int))) none).run Try.prog w = .ok (.slice A2 f cb) w := fun w => (run_sliceAt_slice w _ _ _ _ _ HU.out).trans (hs1 w)
      clear hk hsz hkc hkc2
      go_enter Try.func28, Try.ntmps28
      go_upto_region 1 with fail
      have KX : Hid (Blk (w.alloc (.cells #[.slice A n c, .int .u64 (base : Int), .int .i64 (size : Int), .bool false, .bool dn] 31)) (w.heap.size) 31 #[.slice A n c, .int .u64 (base : Int), .int .i64 (size : Int), .bool false, .bool dn]) := Lib.hid ((Blk.new w 31 #[.slice A n c, .int .u64 (base : Int), .int .i64 (size : Int), .bool false, .bool dn]))
      replace KX : Hid (Blk ((w.alloc (.cells #[.slice A n c, .int .u64 (base : Int), .int .i64 (size : Int), .bool false, .bool dn] 31)).alloc (.cells #[.slice none 0 0, .int .u64 0, .int .i64 0, .bool false, .bool false] 31)) (w.heap.size) 31 #[.slice A n c, .int .u64 (base : Int), .int .i64 (size : Int), .bool false, .bool dn]) := Lib.hid (KX.out.alloc _)
      have KR : Hid (Blk ((w.alloc (.cells #[.slice A n c, .int .u64 (base : Int), .int .i64 (size : Int), .bool false, .bool dn] 31)).alloc (.cells #[.slice none 0 0, .int .u64 0, .int .i64 0, .bool false, .bool false] 31)) (w.heap.size + 1) 31 #[.slice none 0 0, .int .u64 0, .int .i64 0, .bool false, .bool false]) := Lib.hid ((Blk.new (w.alloc (.cells #[.slice A n c, .int .u64 (base : Int), .int .i64 (size : Int), .bool false, .bool dn] 31)) 31 #[.slice none 0 0, .int .u64 0, .int .i64 0, .bool false, .bool false]) |> fun h => by simpa using h)
      have b1 : Hid (Below w.heap.size w ((w.alloc (.cells #[.slice A n c, .int .u64 (base : Int), .int .i64 (size : Int), .bool false, .bool dn] 31)).alloc (.cells #[.slice none 0 0, .int .u64 0, .int .i64 0, .bool false, .bool false] 31))) := Lib.hid (((Below.refl w.heap.size w).alloc (Nat.le_refl _) (.cells #[.slice A n c, .int .u64 (base : Int), .int .i64 (size : Int), .bool false, .bool dn] 31)).alloc (by simp <;> omega) (.cells #[.slice none 0 0, .int .u64 0, .int .i64 0, .bool false, .bool false] 31))
      have hz : ((w.alloc (.cells #[.slice A n c, .int .u64 (base : Int), .int .i64 (size : Int), .bool false, .bool dn] 31)).alloc (.cells #[.slice none 0 0, .int .u64 0, .int .i64 0, .bool false, .bool false] 31)).heap.size = w.heap.size + 2 := by simp
      generalize ((w.alloc (.cells #[.slice A n c, .int .u64 (base : Int), .int .i64 (size : Int), .bool false, .bool dn] 31)).alloc (.cells #[.slice none 0 0, .int .u64 0, .int .i64 0, .bool false, .bool false] 31)) = w2 at KX KR b1 hz ⊢
      have HZ := Lib.hid hz
      clear hz
      have c0 : w2.cell? ⟨w.heap.size, 0, none⟩ = some (.slice A n c) := by rw [KX.out.cell]; rfl
      have c1 : w2.cell? ⟨w.heap.size, 1, none⟩ = some (.int .u64 (base : Int)) := by rw [KX.out.cell]; rfl
      have c2 : w2.cell? ⟨w.heap.size, 2, none⟩ = some (.int .i64 (size : Int)) := by rw [KX.out.cell]; rfl
      have c3 : w2.cell? ⟨w.heap.size, 3, none⟩ = some (.bool false) := by rw [KX.out.cell]; rfl
      have c4 : w2.cell? ⟨w.heap.size, 4, none⟩ = some (.bool dn) := by rw [KX.out.cell]; rfl
      go_wp2_with fail
      refine (RE.out _).mono ?_
      rintro e' w3 ⟨rfl, b3⟩
      replace b1 := Sh.mk (b1.out.trans (b3.mono (by have := HZ.out; omega)))
      replace KX := Sh.mk (KX.out.below b3 KX.out.lt)
      replace KR := Sh.mk (KR.out.below b3 KR.out.lt)
      replace HZ := Sh.mk (show w.heap.size + 2 ≤ w3.heap.size by have := HZ.out; have := b3.size; omega)
      clear c0 c1 c2 c3 c4 b3
      have c0 : w3.cell? ⟨w.heap.size, 0, none⟩ = some (.slice A n c) := by rw [KX.out.cell]; rfl
      have c1 : w3.cell? ⟨w.heap.size, 1, none⟩ = some (.int .u64 (base : Int)) := by rw [KX.out.cell]; rfl
      have c2 : w3.cell? ⟨w.heap.size, 2, none⟩ = some (.int .i64 (size : Int)) := by rw [KX.out.cell]; rfl
      have c3 : w3.cell? ⟨w.heap.size, 3, none⟩ = some (.bool false) := by rw [KX.out.cell]; rfl
      have c4 : w3.cell? ⟨w.heap.size, 4, none⟩ = some (.bool dn) := by rw [KX.out.cell]; rfl
      have hw4 := HW4.out
      go_wp2_with fail
      refine (RE.out _).mono ?_
      rintro e' w4 ⟨rfl, b3⟩
      replace b1 := Sh.mk (b1.out.trans (b3.mono (by have := HZ.out; omega)))
      replace KX := Sh.mk (KX.out.below b3 KX.out.lt)
      replace KR := Sh.mk (KR.out.below b3 KR.out.lt)
      replace HZ := Sh.mk (show w.heap.size + 2 ≤ w4.heap.size by have := HZ.out; have := b3.size; omega)
      clear c0 c1 c2 c3 c4 b3
      have c0 : w4.cell? ⟨w.heap.size, 0, none⟩ = some (.slice A n c) := by rw [KX.out.cell]; rfl
      have c1 : w4.cell? ⟨w.heap.size, 1, none⟩ = some (.int .u64 (base : Int)) := by rw [KX.out.cell]; rfl
      have c2 : w4.cell? ⟨w.heap.size, 2, none⟩ = some (.int .i64 (size : Int)) := by rw [KX.out.cell]; rfl
      have c3 : w4.cell? ⟨w.heap.size, 3, none⟩ = some (.bool false) := by rw [KX.out.cell]; rfl
      have c4 : w4.cell? ⟨w.heap.size, 4, none⟩ = some (.bool dn) := by rw [KX.out.cell]; rfl
      go_upto_region 14 with fail
      clear hw4
      refine wp_ord [(1, .pure), (2, .read), (4, .pure), (5, .pure), (6, .pure), (0, .sole), (3, .sole), (7, .sole), (8, .pure), (9, .sole)] [3, 7, 9] (by kernel_rfl) (by kernel_rfl) (fun QQ hQ wd hwd => ?_); simp only [List.map_cons, List.map_nil, List.getD_cons_zero, List.getD_cons_succ]
      have hD : Below w4.heap.size w4 wd := by rw [hwd.out]; exact (Below.refl _ _).drew
      replace b1 := Sh.mk (b1.out.trans (hD.mono (by have := HZ.out; omega)))
      replace KX := Sh.mk (KX.out.below hD KX.out.lt)
      replace KR := Sh.mk (KR.out.below hD KR.out.lt)
      have HZ0 := Sh.mk (show w.heap.size + 2 ≤ wd.heap.size by have := HZ.out; have := hD.size; omega)
      clear hD hwd c0 c1 c2 c3 c4
      have c0 : wd.cell? ⟨w.heap.size, 0, none⟩ = some (.slice A n c) := by rw [KX.out.cell]; rfl
      have HX6 := Sh.mk (show Rd wd w.heap.size 1 A n (ns .u8 bs) from (HN.out.rd.re HNN.out).below b1.out)
      have HR6 := Sh.mk (show Rd wd w.heap.size 1 A2 f (ns .u8 (l.take f)) from (HR.out.below b1.out).takeN HKN.out)
      (refine o_pure (v := ?_) (by rfl) (fun w' => ?_) ?_; rotate_left; (focus (go_simp; (try with_reducible rfl); (try (rw [if_pos (by omega)]; (try with_reducible rfl))))); (try simp only [Act.put, List.setIfInBounds_toArray, List.set_cons_zero, List.set_cons_succ]))
      (refine o_load _ (by rfl) rfl rfl (by assumption) (by kernel_rfl) ?_; simp only [Act.put, List.setIfInBounds_toArray, List.set_cons_zero, List.set_cons_succ])
      (refine o_pure (v := ?_) (by rfl) (fun w' => ?_) ?_; rotate_left; (focus (go_simp; (try with_reducible rfl); (try (rw [if_pos (by omega)]; (try with_reducible rfl))))); (try simp only [Act.put, List.setIfInBounds_toArray, List.set_cons_zero, List.set_cons_succ]))
      (refine o_pure (v := ?_) (by rfl) (fun w' => ?_) ?_; rotate_left; (focus (go_simp; (try with_reducible rfl); (try (rw [if_pos (by omega)]; (try with_reducible rfl))))); (try simp only [Act.put, List.setIfInBounds_toArray, List.set_cons_zero, List.set_cons_succ]))
      (refine o_pure (v := ?_) (by rfl) (fun w' => ?_) ?_; rotate_left; (focus (go_simp; (try with_reducible rfl); (try (rw [if_pos (by omega)]; (try with_reducible rfl))))); (try simp only [Act.put, List.setIfInBounds_toArray, List.set_cons_zero, List.set_cons_succ]))
      refine o_sole (fun K hK => ?_)
      go_wp2_with fail
      refine hK _ _ (fun _ => Ext.of ((Below.refl _ _).alloc (Nat.le_refl _) _)) ?_; clear hK K
      refine o_sole (fun K hK => ?_)
      refine appn elB rfl (.tmp 52) (.tmp 54) rfl rfl (Nats.lit0 (B := wd.heap.size) wd 5 .u8 (Nat.le_refl _)) rfl (HX6.out.alloc (by have := HZ0.out; omega) _) (room_ge (by have := HN6.out; rw [List.length_nil]; omega)) (by simp) ?_
      intro v5 w6 hv6 _ hb6
      have hb6' : Below wd.heap.size wd w6 := ((Below.refl _ _).alloc (Nat.le_refl _) _).trans hb6
      have HV6 := Sh.mk (show Nats w6 5 .u8 wd.heap.size v5 bs by simpa using hv6)
      have HB6 := Sh.mk hb6'
      have HB6s := Sh.mk hb6'.size
      obtain ⟨A5, n5, c5, rfl, _, _, _⟩ := HV6.out.out
      refine wpList_nil ?_
      refine hK _ _ (fun h => by cases h) ?_; clear hK K
      refine o_sole (fun K hK => ?_)
      refine appn elB rfl (.tmp 55) (.tmp 58) rfl rfl HV6.out rfl ((HR6.out.below (HB6.out.mono (by have := HZ0.out; omega)))) (room_ge (by have := HN6.out; have := HNL.out; have := HKN.out; have := HSM.out.2.2.1; rw [List.length_take]; omega)) HB6s.out ?_
      intro v7 w7 hv7 _ hb7
      replace b1 := Sh.mk (b1.out.trans ((HB6.out.trans hb7).mono (by have := HZ0.out; omega)))
      replace KX := Sh.mk (KX.out.below (HB6.out.trans hb7) KX.out.lt)
      replace KR := Sh.mk (KR.out.below (HB6.out.trans hb7) KR.out.lt)
      have HV := Sh.mk (hv7.mono HZ0.out)
      obtain ⟨A8, n8, c8, rfl, _, _, _⟩ := HV.out.out
      refine wpList_nil ?_
      refine hK _ _ (fun h => by cases h) ?_; clear hK K
      clear c0 hv7 hb7 hv6 hb6 hb6' HB6 HX6 HR6 HV6 HB6s HZ0 HZ
      (refine o_pure (v := ?_) (by rfl) (fun w' => ?_) ?_; rotate_left; (focus (go_simp; (try with_reducible rfl); (try (rw [if_pos (by omega)]; (try with_reducible rfl))))); (try simp only [Act.put, List.setIfInBounds_toArray, List.set_cons_zero, List.set_cons_succ]))
      refine o_sole (fun K hK => ?_)
      have c0 : w7.cell? ⟨w.heap.size, 0, none⟩ = some (.slice A n c) := by rw [KX.out.cell]; rfl
      have hfz0 := KX.out.frozen 0
      go_wp2_with fail
      have hs8 : Solo w.heap.size w7 (w7.setCell ⟨w.heap.size, 0, none⟩ (.slice A8 n8 c8)) := Solo.refl.setCell 0 _
      replace KX := Sh.mk (show Blk _ _ _ #[.slice A8 n8 c8, .int .u64 (base : Int), .int .i64 (size : Int), .bool false, .bool dn] from KX.out.set 0 (.slice A8 n8 c8))
      replace KR := Sh.mk (hs8.blk KR.out (by omega))
      replace b1 := Sh.mk (b1.out.trans (hs8.1.mono (Nat.le_refl _)))
      replace HV := Sh.mk (HV.out.kept (w' := w7.setCell ⟨w.heap.size, 0, none⟩ (.slice A8 n8 c8)) fun i hi => hs8.2.2 i (by have h := (HV.out.lt i hi).1; omega))
      refine hK _ _ (fun h => by cases h) ?_; clear hK K
      generalize w7.setCell ⟨w.heap.size, 0, none⟩ (.slice A8 n8 c8) = w9 at KX KR b1 HV ⊢
      clear hs8 hfz0 c0
      refine o_nil (hQ.out _ _ ?_); clear hQ QQ
      have c0 : w9.cell? ⟨w.heap.size, 0, none⟩ = some (.slice A8 n8 c8) := by rw [KX.out.cell]; rfl
      have c1 : w9.cell? ⟨w.heap.size, 1, none⟩ = some (.int .u64 (base : Int)) := by rw [KX.out.cell]; rfl
      have c2 : w9.cell? ⟨w.heap.size, 2, none⟩ = some (.int .i64 (size : Int)) := by rw [KX.out.cell]; rfl
      have c3 : w9.cell? ⟨w.heap.size, 3, none⟩ = some (.bool false) := by rw [KX.out.cell]; rfl
      have c4 : w9.cell? ⟨w.heap.size, 4, none⟩ = some (.bool dn) := by rw [KX.out.cell]; rfl
      go_wp2_with (refine stm_store (cs' := #[.slice A8 n8 c8, .int .u64 (base : Int), .int .i64 (size : Int), .bool false, .bool dn]) KR.out rfl _ _ rfl rfl rfl (by simp) (by kernel_rfl) (by simp [Value.oneCell']) (by simp [setL]) fun wb hk hs => ?_)
      go_wp2_with fail
      have r0 : wb.cell? ⟨(w.heap.size + 1), 0, none⟩ = some (.slice A8 n8 c8) := by rw [hk.cell]; rfl
      have r1 : wb.cell? ⟨(w.heap.size + 1), 1, none⟩ = some (.int .u64 (base : Int)) := by rw [hk.cell]; rfl
      have r2 : wb.cell? ⟨(w.heap.size + 1), 2, none⟩ = some (.int .i64 (size : Int)) := by rw [hk.cell]; rfl
      have r3 : wb.cell? ⟨(w.heap.size + 1), 3, none⟩ = some (.bool false) := by rw [hk.cell]; rfl
      have r4 : wb.cell? ⟨(w.heap.size + 1), 4, none⟩ = some (.bool dn) := by rw [hk.cell]; rfl
      refine bodyPost_ret (v := .tuple #[.agg #[.slice A8 n8 c8, .int .u64 (base : Int), .int .i64 (size : Int), .bool false, .bool dn], .int .i64 (f : Int), .int .i64 0]) (by simp [results, Try.results28, go_sem, r0, r1, r2, r3, r4]) rfl ?_
      exact ⟨_, rfl, (HV.out.kept (w' := wb) fun i hi => hs.2.2 i (by have h := (HV.out.lt i hi).1; omega)).mono (by have := HBS.out; omega), b1.out.trans (hs.1.mono (by omega))⟩
    · have g1 : (f : Int) < (nb : Int) := by omega
      have g2 : f < nb := by omega
      have g3 : (r : Int) < (f : Int) := by omega
      have g4 : r < f := by omega
      have HK := Sh.mk (show r ≤ nb ∧ r = k by omega)
      obtain rfl : r = k := HK.out.2
      have hkc : (r : Int) ≤ (cb : Int) := by omega
      have hkc2 : r ≤ cb := by omega
      have HKN := Sh.mk (show r ≤ nb by omega)
      have HN6 := Sh.mk (show bs.length ≤ 65536 by have := HNN.out; omega)
      have hs1 : ∀ w, (Instr.slice 29 (.slice A2 nb cb) none (some (.int .i64 (r : Int))) none).run Try.prog w = .ok (.slice A2 r cb) w := fun w => run_cut_h elB A2 nb cb r hkc2 w
      have HU := Sh.mk (show Try.prog.underlying 29 = some (.slice (Try.prog.elem 29)) by unfold Program.elem; rw [Try.underlying29])
      have hs2 : ∀ w, (Instr.sliceAt 29 (.slice A2 nb cb) none (some (.int .i64 (r : Int))) none).run Try.prog w = .ok (.slice A2 r cb) w := fun w => (run_sliceAt_slice w _ _ _ _ _ HU.out).trans (hs1 w)
      clear hk hsz hkc hkc2
      go_enter Try.func28, Try.ntmps28
      go_upto_region 1 with fail
      have KX : Hid (Blk (w.alloc (.cells #[.slice A n c, .int .u64 (base : Int), .int .i64 (size : Int), .bool false, .bool dn] 31)) (w.heap.size) 31 #[.slice A n c, .int .u64 (base : Int), .int .i64 (size : Int), .bool false, .bool dn]) := Lib.hid ((Blk.new w 31 #[.slice A n c, .int .u64 (base : Int), .int .i64 (size : Int), .bool false, .bool dn]))
      replace KX : Hid (Blk ((w.alloc (.cells #[.slice A n c, .int .u64 (base : Int), .int .i64 (size : Int), .bool false, .bool dn] 31)).alloc (.cells #[.slice none 0 0, .int .u64 0, .int .i64 0, .bool false, .bool false] 31)) (w.heap.size) 31 #[.slice A n c, .int .u64 (base : Int), .int .i64 (size : Int), .bool false, .bool dn]) := Lib.hid (KX.out.alloc _)
      have KR : Hid (Blk ((w.alloc (.cells #[.slice A n c, .int .u64 (base : Int), .int .i64 (size : Int), .bool false, .bool dn] 31)).alloc (.cells #[.slice none 0 0, .int .u64 0, .int .i64 0, .bool false, .bool false] 31)) (w.heap.size + 1) 31 #[.slice none 0 0, .int .u64 0, .int .i64 0, .bool false, .bool false]) := Lib.hid ((Blk.new (w.alloc (.cells #[.slice A n c, .int .u64 (base : Int), .int .i64 (size : Int), .bool false, .bool dn] 31)) 31 #[.slice none 0 0, .int .u64 0, .int .i64 0, .bool false, .bool false]) |> fun h => by simpa using h)
      have b1 : Hid (Below w.heap.size w ((w.alloc (.cells #[.slice A n c, .int .u64 (base : Int), .int .i64 (size : Int), .bool false, .bool dn] 31)).alloc (.cells #[.slice none 0 0, .int .u64 0, .int .i64 0, .bool false, .bool false] 31))) := Lib.hid (((Below.refl w.heap.size w).alloc (Nat.le_refl _) (.cells #[.slice A n c, .int .u64 (base : Int), .int .i64 (size : Int), .bool false, .bool dn] 31)).alloc (by simp <;> omega) (.cells #[.slice none 0 0, .int .u64 0, .int .i64 0, .bool false, .bool false] 31))
      have hz : ((w.alloc (.cells #[.slice A n c, .int .u64 (base : Int), .int .i64 (size : Int), .bool false, .bool dn] 31)).alloc (.cells #[.slice none 0 0, .int .u64 0, .int .i64 0, .bool false, .bool false] 31)).heap.size = w.heap.size + 2 := by simp
      generalize ((w.alloc (.cells #[.slice A n c, .int .u64 (base : Int), .int .i64 (size : Int), .bool false, .bool dn] 31)).alloc (.cells #[.slice none 0 0, .int .u64 0, .int .i64 0, .bool false, .bool false] 31)) = w2 at KX KR b1 hz ⊢
      have HZ := Lib.hid hz
      clear hz
      have c0 : w2.cell? ⟨w.heap.size, 0, none⟩ = some (.slice A n c) := by rw [KX.out.cell]; rfl
      have c1 : w2.cell? ⟨w.heap.size, 1, none⟩ = some (.int .u64 (base : Int)) := by rw [KX.out.cell]; rfl
      have c2 : w2.cell? ⟨w.heap.size, 2, none⟩ = some (.int .i64 (size : Int)) := by rw [KX.out.cell]; rfl
      have c3 : w2.cell? ⟨w.heap.size, 3, none⟩ = some (.bool false) := by rw [KX.out.cell]; rfl
      have c4 : w2.cell? ⟨w.heap.size, 4, none⟩ = some (.bool dn) := by rw [KX.out.cell]; rfl
      go_wp2_with fail
      refine (RE.out _).mono ?_
      rintro e' w3 ⟨rfl, b3⟩
      replace b1 := Sh.mk (b1.out.trans (b3.mono (by have := HZ.out; omega)))
      replace KX := Sh.mk (KX.out.below b3 KX.out.lt)
      replace KR := Sh.mk (KR.out.below b3 KR.out.lt)
      replace HZ := Sh.mk (show w.heap.size + 2 ≤ w3.heap.size by have := HZ.out; have := b3.size; omega)
      clear c0 c1 c2 c3 c4 b3
      have c0 : w3.cell? ⟨w.heap.size, 0, none⟩ = some (.slice A n c) := by rw [KX.out.cell]; rfl
      have c1 : w3.cell? ⟨w.heap.size, 1, none⟩ = some (.int .u64 (base : Int)) := by rw [KX.out.cell]; rfl
      have c2 : w3.cell? ⟨w.heap.size, 2, none⟩ = some (.int .i64 (size : Int)) := by rw [KX.out.cell]; rfl
      have c3 : w3.cell? ⟨w.heap.size, 3, none⟩ = some (.bool false) := by rw [KX.out.cell]; rfl
      have c4 : w3.cell? ⟨w.heap.size, 4, none⟩ = some (.bool dn) := by rw [KX.out.cell]; rfl
      have hw4 := HW4.out
      go_wp2_with fail
      refine (RE.out _).mono ?_
      rintro e' w4 ⟨rfl, b3⟩
      replace b1 := Sh.mk (b1.out.trans (b3.mono (by have := HZ.out; omega)))
      replace KX := Sh.mk (KX.out.below b3 KX.out.lt)
      replace KR := Sh.mk (KR.out.below b3 KR.out.lt)
      replace HZ := Sh.mk (show w.heap.size + 2 ≤ w4.heap.size by have := HZ.out; have := b3.size; omega)
      clear c0 c1 c2 c3 c4 b3
      have c0 : w4.cell? ⟨w.heap.size, 0, none⟩ = some (.slice A n c) := by rw [KX.out.cell]; rfl
      have c1 : w4.cell? ⟨w.heap.size, 1, none⟩ = some (.int .u64 (base : Int)) := by rw [KX.out.cell]; rfl
      have c2 : w4.cell? ⟨w.heap.size, 2, none⟩ = some (.int .i64 (size : Int)) := by rw [KX.out.cell]; rfl
      have c3 : w4.cell? ⟨w.heap.size, 3, none⟩ = some (.bool false) := by rw [KX.out.cell]; rfl
      have c4 : w4.cell? ⟨w.heap.size, 4, none⟩ = some (.bool dn) := by rw [KX.out.cell]; rfl
      go_wp2_with fail
      refine (RE.out _).mono ?_
      rintro e' w5 ⟨rfl, b3⟩
      replace b1 := Sh.mk (b1.out.trans (b3.mono (by have := HZ.out; omega)))
      replace KX := Sh.mk (KX.out.below b3 KX.out.lt)
      replace KR := Sh.mk (KR.out.below b3 KR.out.lt)
      replace HZ := Sh.mk (show w.heap.size + 2 ≤ w5.heap.size by have := HZ.out; have := b3.size; omega)
      clear c0 c1 c2 c3 c4 b3
      have c0 : w5.cell? ⟨w.heap.size, 0, none⟩ = some (.slice A n c) := by rw [KX.out.cell]; rfl
      have c1 : w5.cell? ⟨w.heap.size, 1, none⟩ = some (.int .u64 (base : Int)) := by rw [KX.out.cell]; rfl
      have c2 : w5.cell? ⟨w.heap.size, 2, none⟩ = some (.int .i64 (size : Int)) := by rw [KX.out.cell]; rfl
      have c3 : w5.cell? ⟨w.heap.size, 3, none⟩ = some (.bool false) := by rw [KX.out.cell]; rfl
      have c4 : w5.cell? ⟨w.heap.size, 4, none⟩ = some (.bool dn) := by rw [KX.out.cell]; rfl
      go_upto_region 14 with fail
      clear hw4
      refine wp_ord [(1, .pure), (2, .read), (4, .pure), (5, .pure), (6, .pure), (0, .sole), (3, .sole), (7, .sole), (8, .pure), (9, .sole)] [3, 7, 9] (by kernel_rfl) (by kernel_rfl) (fun QQ hQ wd hwd => ?_); simp only [List.map_cons, List.map_nil, List.getD_cons_zero, List.getD_cons_succ]
      have hD : Below w5.heap.size w5 wd := by rw [hwd.out]; exact (Below.refl _ _).drew
      replace b1 := Sh.mk (b1.out.trans (hD.mono (by have := HZ.out; omega)))
      replace KX := Sh.mk (KX.out.below hD KX.out.lt)
      replace KR := Sh.mk (KR.out.below hD KR.out.lt)
      have HZ0 := Sh.mk (show w.heap.size + 2 ≤ wd.heap.size by have := HZ.out; have := hD.size; omega)
      clear hD hwd c0 c1 c2 c3 c4
      have c0 : wd.cell? ⟨w.heap.size, 0, none⟩ = some (.slice A n c) := by rw [KX.out.cell]; rfl
      have HX6 := Sh.mk (show Rd wd w.heap.size 1 A n (ns .u8 bs) from (HN.out.rd.re HNN.out).below b1.out)
      have HR6 := Sh.mk (show Rd wd w.heap.size 1 A2 r (ns .u8 (l.take r)) from (HR.out.below b1.out).takeN HKN.out)
      (refine o_pure (v := ?_) (by rfl) (fun w' => ?_) ?_; rotate_left; (focus (go_simp; (try with_reducible rfl); (try (rw [if_pos (by omega)]; (try with_reducible rfl))))); (try simp only [Act.put, List.setIfInBounds_toArray, List.set_cons_zero, List.set_cons_succ]))
      (refine o_load _ (by rfl) rfl rfl (by assumption) (by kernel_rfl) ?_; simp only [Act.put, List.setIfInBounds_toArray, List.set_cons_zero, List.set_cons_succ])
      (refine o_pure (v := ?_) (by rfl) (fun w' => ?_) ?_; rotate_left; (focus (go_simp; (try with_reducible rfl); (try (rw [if_pos (by omega)]; (try with_reducible rfl))))); (try simp only [Act.put, List.setIfInBounds_toArray, List.set_cons_zero, List.set_cons_succ]))
      (refine o_pure (v := ?_) (by rfl) (fun w' => ?_) ?_; rotate_left; (focus (go_simp; (try with_reducible rfl); (try (rw [if_pos (by omega)]; (try with_reducible rfl))))); (try simp only [Act.put, List.setIfInBounds_toArray, List.set_cons_zero, List.set_cons_succ]))
      (refine o_pure (v := ?_) (by rfl) (fun w' => ?_) ?_; rotate_left; (focus (go_simp; (try with_reducible rfl); (try (rw [if_pos (by omega)]; (try with_reducible rfl))))); (try simp only [Act.put, List.setIfInBounds_toArray, List.set_cons_zero, List.set_cons_succ]))
      refine o_sole (fun K hK => ?_)
      go_wp2_with fail
      refine hK _ _ (fun _ => Ext.of ((Below.refl _ _).alloc (Nat.le_refl _) _)) ?_; clear hK K
      refine o_sole (fun K hK => ?_)
      refine appn elB rfl (.tmp 52) (.tmp 54) rfl rfl (Nats.lit0 (B := wd.heap.size) wd 5 .u8 (Nat.le_refl _)) rfl (HX6.out.alloc (by have := HZ0.out; omega) _) (room_ge (by have := HN6.out; rw [List.length_nil]; omega)) (by simp) ?_
      intro v5 w6 hv6 _ hb6
      have hb6' : Below wd.heap.size wd w6 := ((Below.refl _ _).alloc (Nat.le_refl _) _).trans hb6
      have HV6 := Sh.mk (show Nats w6 5 .u8 wd.heap.size v5 bs by simpa using hv6)
      have HB6 := Sh.mk hb6'
      have HB6s := Sh.mk hb6'.size
      obtain ⟨A5, n5, c5, rfl, _, _, _⟩ := HV6.out.out
      refine wpList_nil ?_
      refine hK _ _ (fun h => by cases h) ?_; clear hK K
      refine o_sole (fun K hK => ?_)
      refine appn elB rfl (.tmp 55) (.tmp 58) rfl rfl HV6.out rfl ((HR6.out.below (HB6.out.mono (by have := HZ0.out; omega)))) (room_ge (by have := HN6.out; have := HNL.out; have := HKN.out; have := HSM.out.2.2.1; rw [List.length_take]; omega)) HB6s.out ?_
      intro v7 w7 hv7 _ hb7
      replace b1 := Sh.mk (b1.out.trans ((HB6.out.trans hb7).mono (by have := HZ0.out; omega)))
      replace KX := Sh.mk (KX.out.below (HB6.out.trans hb7) KX.out.lt)
      replace KR := Sh.mk (KR.out.below (HB6.out.trans hb7) KR.out.lt)
      have HV := Sh.mk (hv7.mono HZ0.out)
      obtain ⟨A8, n8, c8, rfl, _, _, _⟩ := HV.out.out
      refine wpList_nil ?_
      refine hK _ _ (fun h => by cases h) ?_; clear hK K
      clear c0 hv7 hb7 hv6 hb6 hb6' HB6 HX6 HR6 HV6 HB6s HZ0 HZ
      (refine o_pure (v := ?_) (by rfl) (fun w' => ?_) ?_; rotate_left; (focus (go_simp; (try with_reducible rfl); (try (rw [if_pos (by omega)]; (try with_reducible rfl))))); (try simp only [Act.put, List.setIfInBounds_toArray, List.set_cons_zero, List.set_cons_succ]))
      refine o_sole (fun K hK => ?_)
      have c0 : w7.cell? ⟨w.heap.size, 0, none⟩ = some (.slice A n c) := by rw [KX.out.cell]; rfl
      have hfz0 := KX.out.frozen 0
      go_wp2_with fail
      have hs8 : Solo w.heap.size w7 (w7.setCell ⟨w.heap.size, 0, none⟩ (.slice A8 n8 c8)) := Solo.refl.setCell 0 _
      replace KX := Sh.mk (show Blk _ _ _ #[.slice A8 n8 c8, .int .u64 (base : Int), .int .i64 (size : Int), .bool false, .bool dn] from KX.out.set 0 (.slice A8 n8 c8))
      replace KR := Sh.mk (hs8.blk KR.out (by omega))
      replace b1 := Sh.mk (b1.out.trans (hs8.1.mono (Nat.le_refl _)))
      replace HV := Sh.mk (HV.out.kept (w' := w7.setCell ⟨w.heap.size, 0, none⟩ (.slice A8 n8 c8)) fun i hi => hs8.2.2 i (by have h := (HV.out.lt i hi).1; omega))
      refine hK _ _ (fun h => by cases h) ?_; clear hK K
      generalize w7.setCell ⟨w.heap.size, 0, none⟩ (.slice A8 n8 c8) = w9 at KX KR b1 HV ⊢
      clear hs8 hfz0 c0
      refine o_nil (hQ.out _ _ ?_); clear hQ QQ
      have c0 : w9.cell? ⟨w.heap.size, 0, none⟩ = some (.slice A8 n8 c8) := by rw [KX.out.cell]; rfl
      have c1 : w9.cell? ⟨w.heap.size, 1, none⟩ = some (.int .u64 (base : Int)) := by rw [KX.out.cell]; rfl
      have c2 : w9.cell? ⟨w.heap.size, 2, none⟩ = some (.int .i64 (size : Int)) := by rw [KX.out.cell]; rfl
      have c3 : w9.cell? ⟨w.heap.size, 3, none⟩ = some (.bool false) := by rw [KX.out.cell]; rfl
      have c4 : w9.cell? ⟨w.heap.size, 4, none⟩ = some (.bool dn) := by rw [KX.out.cell]; rfl
      go_wp2_with (refine stm_store (cs' := #[.slice A8 n8 c8, .int .u64 (base : Int), .int .i64 (size : Int), .bool false, .bool dn]) KR.out rfl _ _ rfl rfl rfl (by simp) (by kernel_rfl) (by simp [Value.oneCell']) (by simp [setL]) fun wb hk hs => ?_)
      go_wp2_with fail
      have r0 : wb.cell? ⟨(w.heap.size + 1), 0, none⟩ = some (.slice A8 n8 c8) := by rw [hk.cell]; rfl
      have r1 : wb.cell? ⟨(w.heap.size + 1), 1, none⟩ = some (.int .u64 (base : Int)) := by rw [hk.cell]; rfl
      have r2 : wb.cell? ⟨(w.heap.size + 1), 2, none⟩ = some (.int .i64 (size : Int)) := by rw [hk.cell]; rfl
      have r3 : wb.cell? ⟨(w.heap.size + 1), 3, none⟩ = some (.bool false) := by rw [hk.cell]; rfl
      have r4 : wb.cell? ⟨(w.heap.size + 1), 4, none⟩ = some (.bool dn) := by rw [hk.cell]; rfl
      refine bodyPost_ret (v := .tuple #[.agg #[.slice A8 n8 c8, .int .u64 (base : Int), .int .i64 (size : Int), .bool false, .bool dn], .int .i64 (r : Int), .int .i64 0]) (by simp [results, Try.results28, go_sem, r0, r1, r2, r3, r4]) rfl ?_
      exact ⟨_, rfl, (HV.out.kept (w' := wb) fun i hi => hs.2.2 i (by have h := (HV.out.lt i hi).1; omega)).mono (by have := HBS.out; omega), b1.out.trans (hs.1.mono (by omega))⟩
end Go.Proofs.Ytmkjclgdiikjdaa
