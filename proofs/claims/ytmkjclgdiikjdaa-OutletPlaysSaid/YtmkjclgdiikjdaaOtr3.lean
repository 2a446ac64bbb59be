/- Layer 17: the document's outlet: Acked. -/
import Derived.Test.YtmkjclgdiikjdaaOtr2
namespace Go.Proofs.Ytmkjclgdiikjdaa
open Go.RowKit
set_option linter.unusedVariables false
set_option linter.unusedSimpArgs false
set_option maxRecDepth 20000 in
set_option maxHeartbeats 4000000 in
theorem r_acked_no (A : Option Addr) (n c base size : Nat) (cl dn : Bool) (to : Nat) (w : World) (hlim : base + n ≤ qLim) (hno : dn = true ∨ to ≤ base ∨ base + n + (if cl then 1 else 0) < to) :
    Calls Try.prog 26 #[.agg #[.slice A n c, .int .u64 (base : Int), .int .i64 (size : Int), .bool cl, .bool dn], .int .u64 (to : Int)] w fun x w' => x = .returned (.tuple #[.agg #[.slice A n c, .int .u64 (base : Int), .int .i64 (size : Int), .bool cl, .bool dn], .bool false]) ∧ Below w.heap.size w w' := by
  obtain ⟨t, ht⟩ : ∃ t, t = base + n + (if cl then 1 else 0) := ⟨_, rfl⟩
  have RT := Sh.mk (fun w => r_top A n c base size cl dn w t ht hlim)
  rw [← ht] at hno
  clear ht hlim
  by_cases a : to ≤ base
  · have a' : (to : Int) ≤ (base : Int) := by omega
    clear hno
    go_enter Try.func26, Try.ntmps26
    go_upto_region 1 with fail
    have KX : Hid (Blk (w.alloc (.cells #[.slice A n c, .int .u64 (base : Int), .int .i64 (size : Int), .bool cl, .bool dn] 31)) (w.heap.size) 31 #[.slice A n c, .int .u64 (base : Int), .int .i64 (size : Int), .bool cl, .bool dn]) := Lib.hid ((Blk.new w 31 #[.slice A n c, .int .u64 (base : Int), .int .i64 (size : Int), .bool cl, .bool dn]))
    replace KX : Hid (Blk ((w.alloc (.cells #[.slice A n c, .int .u64 (base : Int), .int .i64 (size : Int), .bool cl, .bool dn] 31)).alloc (.cells #[.slice none 0 0, .int .u64 0, .int .i64 0, .bool false, .bool false] 31)) (w.heap.size) 31 #[.slice A n c, .int .u64 (base : Int), .int .i64 (size : Int), .bool cl, .bool dn]) := Lib.hid (KX.out.alloc _)
    have KR : Hid (Blk ((w.alloc (.cells #[.slice A n c, .int .u64 (base : Int), .int .i64 (size : Int), .bool cl, .bool dn] 31)).alloc (.cells #[.slice none 0 0, .int .u64 0, .int .i64 0, .bool false, .bool false] 31)) (w.heap.size + 1) 31 #[.slice none 0 0, .int .u64 0, .int .i64 0, .bool false, .bool false]) := Lib.hid ((Blk.new (w.alloc (.cells #[.slice A n c, .int .u64 (base : Int), .int .i64 (size : Int), .bool cl, .bool dn] 31)) 31 #[.slice none 0 0, .int .u64 0, .int .i64 0, .bool false, .bool false]) |> fun h => by simpa using h)
    have b1 : Hid (Below w.heap.size w ((w.alloc (.cells #[.slice A n c, .int .u64 (base : Int), .int .i64 (size : Int), .bool cl, .bool dn] 31)).alloc (.cells #[.slice none 0 0, .int .u64 0, .int .i64 0, .bool false, .bool false] 31))) := Lib.hid (((Below.refl w.heap.size w).alloc (Nat.le_refl _) (.cells #[.slice A n c, .int .u64 (base : Int), .int .i64 (size : Int), .bool cl, .bool dn] 31)).alloc (by simp <;> omega) (.cells #[.slice none 0 0, .int .u64 0, .int .i64 0, .bool false, .bool false] 31))
    have hz : ((w.alloc (.cells #[.slice A n c, .int .u64 (base : Int), .int .i64 (size : Int), .bool cl, .bool dn] 31)).alloc (.cells #[.slice none 0 0, .int .u64 0, .int .i64 0, .bool false, .bool false] 31)).heap.size = w.heap.size + 2 := by simp
    generalize ((w.alloc (.cells #[.slice A n c, .int .u64 (base : Int), .int .i64 (size : Int), .bool cl, .bool dn] 31)).alloc (.cells #[.slice none 0 0, .int .u64 0, .int .i64 0, .bool false, .bool false] 31)) = w2 at KX KR b1 hz ⊢
    have HZ := Lib.hid hz
    clear hz
    have c0 : w2.cell? ⟨w.heap.size, 0, none⟩ = some (.slice A n c) := by rw [KX.out.cell]; rfl
    have c1 : w2.cell? ⟨w.heap.size, 1, none⟩ = some (.int .u64 (base : Int)) := by rw [KX.out.cell]; rfl
    have c2 : w2.cell? ⟨w.heap.size, 2, none⟩ = some (.int .i64 (size : Int)) := by rw [KX.out.cell]; rfl
    have c3 : w2.cell? ⟨w.heap.size, 3, none⟩ = some (.bool cl) := by rw [KX.out.cell]; rfl
    have c4 : w2.cell? ⟨w.heap.size, 4, none⟩ = some (.bool dn) := by rw [KX.out.cell]; rfl
    have BB := Sh.mk b1.out
    clear b1
    go_wp2_with (refine stm_store (cs' := #[.slice A n c, .int .u64 (base : Int), .int .i64 (size : Int), .bool cl, .bool dn]) KR.out rfl _ _ rfl rfl rfl (by simp) (by kernel_rfl) (by simp [Value.oneCell']) (by simp [setL]) fun w9 hk hs => ?_)
    go_wp2_with fail
    have r0 : w9.cell? ⟨(w.heap.size + 1), 0, none⟩ = some (.slice A n c) := by rw [hk.cell]; rfl
    have r1 : w9.cell? ⟨(w.heap.size + 1), 1, none⟩ = some (.int .u64 (base : Int)) := by rw [hk.cell]; rfl
    have r2 : w9.cell? ⟨(w.heap.size + 1), 2, none⟩ = some (.int .i64 (size : Int)) := by rw [hk.cell]; rfl
    have r3 : w9.cell? ⟨(w.heap.size + 1), 3, none⟩ = some (.bool cl) := by rw [hk.cell]; rfl
    have r4 : w9.cell? ⟨(w.heap.size + 1), 4, none⟩ = some (.bool dn) := by rw [hk.cell]; rfl
    refine bodyPost_ret (v := .tuple #[.agg #[.slice A n c, .int .u64 (base : Int), .int .i64 (size : Int), .bool cl, .bool dn], .bool false]) (by simp [results, Try.results26, go_sem, r0, r1, r2, r3, r4]) rfl ?_
    exact ⟨rfl, BB.out.trans (hs.1.mono (by omega))⟩
  have a' : (base : Int) < (to : Int) := by omega
  have a2 : base < to := by omega
  by_cases b : t < to
  · have b' : (t : Int) < (to : Int) := by omega
    clear hno a
    go_enter Try.func26, Try.ntmps26
    go_upto_region 1 with fail
    have KX : Hid (Blk (w.alloc (.cells #[.slice A n c, .int .u64 (base : Int), .int .i64 (size : Int), .bool cl, .bool dn] 31)) (w.heap.size) 31 #[.slice A n c, .int .u64 (base : Int), .int .i64 (size : Int), .bool cl, .bool dn]) := Lib.hid ((Blk.new w 31 #[.slice A n c, .int .u64 (base : Int), .int .i64 (size : Int), .bool cl, .bool dn]))
    replace KX : Hid (Blk ((w.alloc (.cells #[.slice A n c, .int .u64 (base : Int), .int .i64 (size : Int), .bool cl, .bool dn] 31)).alloc (.cells #[.slice none 0 0, .int .u64 0, .int .i64 0, .bool false, .bool false] 31)) (w.heap.size) 31 #[.slice A n c, .int .u64 (base : Int), .int .i64 (size : Int), .bool cl, .bool dn]) := Lib.hid (KX.out.alloc _)
    have KR : Hid (Blk ((w.alloc (.cells #[.slice A n c, .int .u64 (base : Int), .int .i64 (size : Int), .bool cl, .bool dn] 31)).alloc (.cells #[.slice none 0 0, .int .u64 0, .int .i64 0, .bool false, .bool false] 31)) (w.heap.size + 1) 31 #[.slice none 0 0, .int .u64 0, .int .i64 0, .bool false, .bool false]) := Lib.hid ((Blk.new (w.alloc (.cells #[.slice A n c, .int .u64 (base : Int), .int .i64 (size : Int), .bool cl, .bool dn] 31)) 31 #[.slice none 0 0, .int .u64 0, .int .i64 0, .bool false, .bool false]) |> fun h => by simpa using h)
    have b1 : Hid (Below w.heap.size w ((w.alloc (.cells #[.slice A n c, .int .u64 (base : Int), .int .i64 (size : Int), .bool cl, .bool dn] 31)).alloc (.cells #[.slice none 0 0, .int .u64 0, .int .i64 0, .bool false, .bool false] 31))) := Lib.hid (((Below.refl w.heap.size w).alloc (Nat.le_refl _) (.cells #[.slice A n c, .int .u64 (base : Int), .int .i64 (size : Int), .bool cl, .bool dn] 31)).alloc (by simp <;> omega) (.cells #[.slice none 0 0, .int .u64 0, .int .i64 0, .bool false, .bool false] 31))
    have hz : ((w.alloc (.cells #[.slice A n c, .int .u64 (base : Int), .int .i64 (size : Int), .bool cl, .bool dn] 31)).alloc (.cells #[.slice none 0 0, .int .u64 0, .int .i64 0, .bool false, .bool false] 31)).heap.size = w.heap.size + 2 := by simp
    generalize ((w.alloc (.cells #[.slice A n c, .int .u64 (base : Int), .int .i64 (size : Int), .bool cl, .bool dn] 31)).alloc (.cells #[.slice none 0 0, .int .u64 0, .int .i64 0, .bool false, .bool false] 31)) = w2 at KX KR b1 hz ⊢
    have HZ := Lib.hid hz
    clear hz
    have c0 : w2.cell? ⟨w.heap.size, 0, none⟩ = some (.slice A n c) := by rw [KX.out.cell]; rfl
    have c1 : w2.cell? ⟨w.heap.size, 1, none⟩ = some (.int .u64 (base : Int)) := by rw [KX.out.cell]; rfl
    have c2 : w2.cell? ⟨w.heap.size, 2, none⟩ = some (.int .i64 (size : Int)) := by rw [KX.out.cell]; rfl
    have c3 : w2.cell? ⟨w.heap.size, 3, none⟩ = some (.bool cl) := by rw [KX.out.cell]; rfl
    have c4 : w2.cell? ⟨w.heap.size, 4, none⟩ = some (.bool dn) := by rw [KX.out.cell]; rfl
    go_wp2_with fail
    refine (RT.out _).mono ?_
    rintro e' w3 ⟨rfl, b3⟩
    have BB := Sh.mk (b1.out.trans (b3.mono (by have := HZ.out; omega)))
    replace KX := Sh.mk (KX.out.below b3 KX.out.lt)
    replace KR := Sh.mk (KR.out.below b3 KR.out.lt)
    clear c0 c1 c2 c3 c4 b1 HZ b3
    have c0 : w3.cell? ⟨w.heap.size, 0, none⟩ = some (.slice A n c) := by rw [KX.out.cell]; rfl
    have c1 : w3.cell? ⟨w.heap.size, 1, none⟩ = some (.int .u64 (base : Int)) := by rw [KX.out.cell]; rfl
    have c2 : w3.cell? ⟨w.heap.size, 2, none⟩ = some (.int .i64 (size : Int)) := by rw [KX.out.cell]; rfl
    have c3 : w3.cell? ⟨w.heap.size, 3, none⟩ = some (.bool cl) := by rw [KX.out.cell]; rfl
    have c4 : w3.cell? ⟨w.heap.size, 4, none⟩ = some (.bool dn) := by rw [KX.out.cell]; rfl
    go_wp2_with (refine stm_store (cs' := #[.slice A n c, .int .u64 (base : Int), .int .i64 (size : Int), .bool cl, .bool dn]) KR.out rfl _ _ rfl rfl rfl (by simp) (by kernel_rfl) (by simp [Value.oneCell']) (by simp [setL]) fun w9 hk hs => ?_)
    go_wp2_with fail
    have r0 : w9.cell? ⟨(w.heap.size + 1), 0, none⟩ = some (.slice A n c) := by rw [hk.cell]; rfl
    have r1 : w9.cell? ⟨(w.heap.size + 1), 1, none⟩ = some (.int .u64 (base : Int)) := by rw [hk.cell]; rfl
    have r2 : w9.cell? ⟨(w.heap.size + 1), 2, none⟩ = some (.int .i64 (size : Int)) := by rw [hk.cell]; rfl
    have r3 : w9.cell? ⟨(w.heap.size + 1), 3, none⟩ = some (.bool cl) := by rw [hk.cell]; rfl
    have r4 : w9.cell? ⟨(w.heap.size + 1), 4, none⟩ = some (.bool dn) := by rw [hk.cell]; rfl
    refine bodyPost_ret (v := .tuple #[.agg #[.slice A n c, .int .u64 (base : Int), .int .i64 (size : Int), .bool cl, .bool dn], .bool false]) (by simp [results, Try.results26, go_sem, r0, r1, r2, r3, r4]) rfl ?_
    exact ⟨rfl, BB.out.trans (hs.1.mono (by omega))⟩
  have b' : (to : Int) ≤ (t : Int) := by omega
  have b2 : to ≤ t := by omega
  obtain rfl : dn = true := by simpa [a, b] using hno
  clear hno a b
  go_enter Try.func26, Try.ntmps26
  go_upto_region 1 with fail
  have KX : Hid (Blk (w.alloc (.cells #[.slice A n c, .int .u64 (base : Int), .int .i64 (size : Int), .bool cl, .bool true] 31)) (w.heap.size) 31 #[.slice A n c, .int .u64 (base : Int), .int .i64 (size : Int), .bool cl, .bool true]) := Lib.hid ((Blk.new w 31 #[.slice A n c, .int .u64 (base : Int), .int .i64 (size : Int), .bool cl, .bool true]))
  replace KX : Hid (Blk ((w.alloc (.cells #[.slice A n c, .int .u64 (base : Int), .int .i64 (size : Int), .bool cl, .bool true] 31)).alloc (.cells #[.slice none 0 0, .int .u64 0, .int .i64 0, .bool false, .bool false] 31)) (w.heap.size) 31 #[.slice A n c, .int .u64 (base : Int), .int .i64 (size : Int), .bool cl, .bool true]) := Lib.hid (KX.out.alloc _)
  have KR : Hid (Blk ((w.alloc (.cells #[.slice A n c, .int .u64 (base : Int), .int .i64 (size : Int), .bool cl, .bool true] 31)).alloc (.cells #[.slice none 0 0, .int .u64 0, .int .i64 0, .bool false, .bool false] 31)) (w.heap.size + 1) 31 #[.slice none 0 0, .int .u64 0, .int .i64 0, .bool false, .bool false]) := Lib.hid ((Blk.new (w.alloc (.cells #[.slice A n c, .int .u64 (base : Int), .int .i64 (size : Int), .bool cl, .bool true] 31)) 31 #[.slice none 0 0, .int .u64 0, .int .i64 0, .bool false, .bool false]) |> fun h => by simpa using h)
  have b1 : Hid (Below w.heap.size w ((w.alloc (.cells #[.slice A n c, .int .u64 (base : Int), .int .i64 (size : Int), .bool cl, .bool true] 31)).alloc (.cells #[.slice none 0 0, .int .u64 0, .int .i64 0, .bool false, .bool false] 31))) := Lib.hid (((Below.refl w.heap.size w).alloc (Nat.le_refl _) (.cells #[.slice A n c, .int .u64 (base : Int), .int .i64 (size : Int), .bool cl, .bool true] 31)).alloc (by simp <;> omega) (.cells #[.slice none 0 0, .int .u64 0, .int .i64 0, .bool false, .bool false] 31))
  have hz : ((w.alloc (.cells #[.slice A n c, .int .u64 (base : Int), .int .i64 (size : Int), .bool cl, .bool true] 31)).alloc (.cells #[.slice none 0 0, .int .u64 0, .int .i64 0, .bool false, .bool false] 31)).heap.size = w.heap.size + 2 := by simp
  generalize ((w.alloc (.cells #[.slice A n c, .int .u64 (base : Int), .int .i64 (size : Int), .bool cl, .bool true] 31)).alloc (.cells #[.slice none 0 0, .int .u64 0, .int .i64 0, .bool false, .bool false] 31)) = w2 at KX KR b1 hz ⊢
  have HZ := Lib.hid hz
  clear hz
  have c0 : w2.cell? ⟨w.heap.size, 0, none⟩ = some (.slice A n c) := by rw [KX.out.cell]; rfl
  have c1 : w2.cell? ⟨w.heap.size, 1, none⟩ = some (.int .u64 (base : Int)) := by rw [KX.out.cell]; rfl
  have c2 : w2.cell? ⟨w.heap.size, 2, none⟩ = some (.int .i64 (size : Int)) := by rw [KX.out.cell]; rfl
  have c3 : w2.cell? ⟨w.heap.size, 3, none⟩ = some (.bool cl) := by rw [KX.out.cell]; rfl
  have c4 : w2.cell? ⟨w.heap.size, 4, none⟩ = some (.bool true) := by rw [KX.out.cell]; rfl
  go_wp2_with fail
  refine (RT.out _).mono ?_
  rintro e' w3 ⟨rfl, b3⟩
  have BB := Sh.mk (b1.out.trans (b3.mono (by have := HZ.out; omega)))
  replace KX := Sh.mk (KX.out.below b3 KX.out.lt)
  replace KR := Sh.mk (KR.out.below b3 KR.out.lt)
  clear c0 c1 c2 c3 c4 b1 HZ b3
  have c0 : w3.cell? ⟨w.heap.size, 0, none⟩ = some (.slice A n c) := by rw [KX.out.cell]; rfl
  have c1 : w3.cell? ⟨w.heap.size, 1, none⟩ = some (.int .u64 (base : Int)) := by rw [KX.out.cell]; rfl
  have c2 : w3.cell? ⟨w.heap.size, 2, none⟩ = some (.int .i64 (size : Int)) := by rw [KX.out.cell]; rfl
  have c3 : w3.cell? ⟨w.heap.size, 3, none⟩ = some (.bool cl) := by rw [KX.out.cell]; rfl
  have c4 : w3.cell? ⟨w.heap.size, 4, none⟩ = some (.bool true) := by rw [KX.out.cell]; rfl
  go_wp2_with (refine stm_store (cs' := #[.slice A n c, .int .u64 (base : Int), .int .i64 (size : Int), .bool cl, .bool true]) KR.out rfl _ _ rfl rfl rfl (by simp) (by kernel_rfl) (by simp [Value.oneCell']) (by simp [setL]) fun w9 hk hs => ?_)
  go_wp2_with fail
  have r0 : w9.cell? ⟨(w.heap.size + 1), 0, none⟩ = some (.slice A n c) := by rw [hk.cell]; rfl
  have r1 : w9.cell? ⟨(w.heap.size + 1), 1, none⟩ = some (.int .u64 (base : Int)) := by rw [hk.cell]; rfl
  have r2 : w9.cell? ⟨(w.heap.size + 1), 2, none⟩ = some (.int .i64 (size : Int)) := by rw [hk.cell]; rfl
  have r3 : w9.cell? ⟨(w.heap.size + 1), 3, none⟩ = some (.bool cl) := by rw [hk.cell]; rfl
  have r4 : w9.cell? ⟨(w.heap.size + 1), 4, none⟩ = some (.bool true) := by rw [hk.cell]; rfl
  refine bodyPost_ret (v := .tuple #[.agg #[.slice A n c, .int .u64 (base : Int), .int .i64 (size : Int), .bool cl, .bool true], .bool false]) (by simp [results, Try.results26, go_sem, r0, r1, r2, r3, r4]) rfl ?_
  exact ⟨rfl, BB.out.trans (hs.1.mono (by omega))⟩
set_option maxRecDepth 20000 in
set_option maxHeartbeats 4000000 in
theorem r_acked_yes (A : Option Addr) (n c base size : Nat) (cl : Bool) (bs : List Nat) (to : Nat) (w : World) (hx : Rd w w.heap.size 1 A n (ns .u8 bs)) (hnc : n ≤ c) (hn6 : n ≤ 65536) (hlim : base + n ≤ qLim) (hb : base < to) (htop : to ≤ base + n + (if cl then 1 else 0)) (z : Nat) (hz : z = min to (base + n)) :
    Calls Try.prog 26 #[.agg #[.slice A n c, .int .u64 (base : Int), .int .i64 (size : Int), .bool cl, .bool false], .int .u64 (to : Int)] w fun x w' => ∃ v, x = .returned (.tuple #[.agg #[v, .int .u64 (z : Int), .int .i64 (size : Int), .bool cl, .bool (decide (base + n < to))], .bool true]) ∧ Nats w' 5 .u8 w.heap.size v (bs.drop (z - base)) ∧ Below w.heap.size w w' := by
  obtain ⟨t, ht⟩ : ∃ t, t = base + n + (if cl then 1 else 0) := ⟨_, rfl⟩
  have RT := Sh.mk (fun w => r_top A n c base size cl false w t ht hlim)
  rw [← ht] at htop
  obtain ⟨e, he⟩ : ∃ e, e = base + n := ⟨_, rfl⟩
  have RE := Sh.mk (fun w => r_end A n c base size cl false w e he (by omega))
  have RE2 := Sh.mk (fun w => r_end A n c base size cl true w e he (by omega))
  rw [← he] at hz ⊢
  obtain ⟨d, hd⟩ : ∃ d, d = z - base := ⟨_, rfl⟩
  rw [← hd]
  obtain ⟨m, hm⟩ : ∃ m, m = n - d := ⟨_, rfl⟩
  have hdn : d ≤ n := by omega
  have HD := Sh.mk (And.intro hdn hm.symm)
  have HX := Sh.mk hx
  have HNC := Sh.mk hnc
  have HNL := Sh.mk hx.natLen
  have HN6 : Sh (bs.length ≤ 65536) := Sh.mk (by have := hx.natLen; omega)
  have HU := Sh.mk (show Try.prog.underlying 29 = some (.slice (Try.prog.elem 29)) by unfold Program.elem; rw [Try.underlying29])
  have b' : (to : Int) ≤ (t : Int) := by omega
  have b2 : to ≤ t := by omega
  have a' : (base : Int) < (to : Int) := by omega
  have a2 : base < to := by omega
  have hw0 : (z : Int) - (base : Int) = (d : Nat) := by omega
  have hw1 : IntKind.u64.wrap (d : Int) = (d : Nat) := by rw [IntKind.wrap_u64]; omega
  clear hx hnc hn6 hlim ht hd hm hdn
  by_cases f : e < to
  · have f' : (e : Int) < (to : Int) := by omega
    have hdc : decide (e < to) = true := decide_eq_true f
    rw [hdc]
    obtain rfl : z = e := by omega
    clear he hz htop hb hdc
    go_enter Try.func26, Try.ntmps26
    go_upto_region 1 with fail
    have KX : Hid (Blk (w.alloc (.cells #[.slice A n c, .int .u64 (base : Int), .int .i64 (size : Int), .bool cl, .bool false] 31)) (w.heap.size) 31 #[.slice A n c, .int .u64 (base : Int), .int .i64 (size : Int), .bool cl, .bool false]) := Lib.hid ((Blk.new w 31 #[.slice A n c, .int .u64 (base : Int), .int .i64 (size : Int), .bool cl, .bool false]))
    replace KX : Hid (Blk ((w.alloc (.cells #[.slice A n c, .int .u64 (base : Int), .int .i64 (size : Int), .bool cl, .bool false] 31)).alloc (.cells #[.slice none 0 0, .int .u64 0, .int .i64 0, .bool false, .bool false] 31)) (w.heap.size) 31 #[.slice A n c, .int .u64 (base : Int), .int .i64 (size : Int), .bool cl, .bool false]) := Lib.hid (KX.out.alloc _)
    have KR : Hid (Blk ((w.alloc (.cells #[.slice A n c, .int .u64 (base : Int), .int .i64 (size : Int), .bool cl, .bool false] 31)).alloc (.cells #[.slice none 0 0, .int .u64 0, .int .i64 0, .bool false, .bool false] 31)) (w.heap.size + 1) 31 #[.slice none 0 0, .int .u64 0, .int .i64 0, .bool false, .bool false]) := Lib.hid ((Blk.new (w.alloc (.cells #[.slice A n c, .int .u64 (base : Int), .int .i64 (size : Int), .bool cl, .bool false] 31)) 31 #[.slice none 0 0, .int .u64 0, .int .i64 0, .bool false, .bool false]) |> fun h => by simpa using h)
    have b1 : Hid (Below w.heap.size w ((w.alloc (.cells #[.slice A n c, .int .u64 (base : Int), .int .i64 (size : Int), .bool cl, .bool false] 31)).alloc (.cells #[.slice none 0 0, .int .u64 0, .int .i64 0, .bool false, .bool false] 31))) := Lib.hid (((Below.refl w.heap.size w).alloc (Nat.le_refl _) (.cells #[.slice A n c, .int .u64 (base : Int), .int .i64 (size : Int), .bool cl, .bool false] 31)).alloc (by simp <;> omega) (.cells #[.slice none 0 0, .int .u64 0, .int .i64 0, .bool false, .bool false] 31))
    have hz : ((w.alloc (.cells #[.slice A n c, .int .u64 (base : Int), .int .i64 (size : Int), .bool cl, .bool false] 31)).alloc (.cells #[.slice none 0 0, .int .u64 0, .int .i64 0, .bool false, .bool false] 31)).heap.size = w.heap.size + 2 := by simp
    generalize ((w.alloc (.cells #[.slice A n c, .int .u64 (base : Int), .int .i64 (size : Int), .bool cl, .bool false] 31)).alloc (.cells #[.slice none 0 0, .int .u64 0, .int .i64 0, .bool false, .bool false] 31)) = w2 at KX KR b1 hz ⊢
    have HZ := Lib.hid hz
    clear hz
    have c0 : w2.cell? ⟨w.heap.size, 0, none⟩ = some (.slice A n c) := by rw [KX.out.cell]; rfl
    have c1 : w2.cell? ⟨w.heap.size, 1, none⟩ = some (.int .u64 (base : Int)) := by rw [KX.out.cell]; rfl
    have c2 : w2.cell? ⟨w.heap.size, 2, none⟩ = some (.int .i64 (size : Int)) := by rw [KX.out.cell]; rfl
    have c3 : w2.cell? ⟨w.heap.size, 3, none⟩ = some (.bool cl) := by rw [KX.out.cell]; rfl
    have c4 : w2.cell? ⟨w.heap.size, 4, none⟩ = some (.bool false) := by rw [KX.out.cell]; rfl
    go_wp2_with fail
    refine (RT.out _).mono ?_
    rintro e' w3 ⟨rfl, b3⟩
    replace b1 := Sh.mk (b1.out.trans (b3.mono (by have := HZ.out; omega)))
    replace KX := Sh.mk (KX.out.below b3 KX.out.lt)
    replace KR := Sh.mk (KR.out.below b3 KR.out.lt)
    replace HZ := Sh.mk (show w.heap.size + 2 ≤ w3.heap.size by have := HZ.out; have := b3.size; omega)
    clear c0 c1 c2 c3 c4 b3
    have c0 : w3.cell? ⟨w.heap.size, 0, none⟩ = some (.slice A n c) := by rw [KX.out.cell]; rfl
    have c1 : w3.cell? ⟨w.heap.size, 1, none⟩ = some (.int .u64 (base : Int)) := by rw [KX.out.cell]; rfl
    have c2 : w3.cell? ⟨w.heap.size, 2, none⟩ = some (.int .i64 (size : Int)) := by rw [KX.out.cell]; rfl
    have c3 : w3.cell? ⟨w.heap.size, 3, none⟩ = some (.bool cl) := by rw [KX.out.cell]; rfl
    have c4 : w3.cell? ⟨w.heap.size, 4, none⟩ = some (.bool false) := by rw [KX.out.cell]; rfl
    go_wp2_with fail
    refine (RE.out _).mono ?_
    rintro e' w4 ⟨rfl, b3⟩
    replace b1 := Sh.mk (b1.out.trans (b3.mono (by have := HZ.out; omega)))
    replace KX := Sh.mk (KX.out.below b3 KX.out.lt)
    replace KR := Sh.mk (KR.out.below b3 KR.out.lt)
    replace HZ := Sh.mk (show w.heap.size + 2 ≤ w4.heap.size by have := HZ.out; have := b3.size; omega)
    clear c0 c1 c2 c3 c4 b3
    have c0 : w4.cell? ⟨w.heap.size, 0, none⟩ = some (.slice A n c) := by rw [KX.out.cell]; rfl
    have c1 : w4.cell? ⟨w.heap.size, 1, none⟩ = some (.int .u64 (base : Int)) := by rw [KX.out.cell]; rfl
    have c2 : w4.cell? ⟨w.heap.size, 2, none⟩ = some (.int .i64 (size : Int)) := by rw [KX.out.cell]; rfl
    have c3 : w4.cell? ⟨w.heap.size, 3, none⟩ = some (.bool cl) := by rw [KX.out.cell]; rfl
    have c4 : w4.cell? ⟨w.heap.size, 4, none⟩ = some (.bool false) := by rw [KX.out.cell]; rfl
    have hfz := KX.out.frozen 4
    go_upto_region 5 with fail
    have hs4 : Solo w.heap.size w4 (w4.setCell ⟨w.heap.size, 4, none⟩ (.bool true)) := Solo.refl.setCell 4 _
    replace KX := Sh.mk (show Blk _ _ _ #[.slice A n c, .int .u64 (base : Int), .int .i64 (size : Int), .bool cl, .bool true] from KX.out.set 4 (.bool true))
    replace KR := Sh.mk (hs4.blk KR.out (by omega))
    replace b1 := Sh.mk (b1.out.trans (hs4.1.mono (Nat.le_refl _)))
    replace HZ := Sh.mk (show w.heap.size + 2 ≤ (w4.setCell ⟨w.heap.size, 4, none⟩ (.bool true)).heap.size by rw [hs4.2.1]; exact HZ.out)
    generalize w4.setCell ⟨w.heap.size, 4, none⟩ (.bool true) = w5 at KX KR b1 HZ ⊢
    clear hs4 hfz c0 c1 c2 c3 c4
    have c0 : w5.cell? ⟨w.heap.size, 0, none⟩ = some (.slice A n c) := by rw [KX.out.cell]; rfl
    have c1 : w5.cell? ⟨w.heap.size, 1, none⟩ = some (.int .u64 (base : Int)) := by rw [KX.out.cell]; rfl
    have c2 : w5.cell? ⟨w.heap.size, 2, none⟩ = some (.int .i64 (size : Int)) := by rw [KX.out.cell]; rfl
    have c3 : w5.cell? ⟨w.heap.size, 3, none⟩ = some (.bool cl) := by rw [KX.out.cell]; rfl
    have c4 : w5.cell? ⟨w.heap.size, 4, none⟩ = some (.bool true) := by rw [KX.out.cell]; rfl
    go_wp2_with fail
    refine (RE2.out _).mono ?_
    rintro e' w6 ⟨rfl, b3⟩
    replace b1 := Sh.mk (b1.out.trans (b3.mono (by have := HZ.out; omega)))
    replace KX := Sh.mk (KX.out.below b3 KX.out.lt)
    replace KR := Sh.mk (KR.out.below b3 KR.out.lt)
    replace HZ := Sh.mk (show w.heap.size + 2 ≤ w6.heap.size by have := HZ.out; have := b3.size; omega)
    clear c0 c1 c2 c3 c4 b3
    have c0 : w6.cell? ⟨w.heap.size, 0, none⟩ = some (.slice A n c) := by rw [KX.out.cell]; rfl
    have c1 : w6.cell? ⟨w.heap.size, 1, none⟩ = some (.int .u64 (base : Int)) := by rw [KX.out.cell]; rfl
    have c2 : w6.cell? ⟨w.heap.size, 2, none⟩ = some (.int .i64 (size : Int)) := by rw [KX.out.cell]; rfl
    have c3 : w6.cell? ⟨w.heap.size, 3, none⟩ = some (.bool cl) := by rw [KX.out.cell]; rfl
    have c4 : w6.cell? ⟨w.heap.size, 4, none⟩ = some (.bool true) := by rw [KX.out.cell]; rfl
    have HR6 := Sh.mk (HX.out.below b1.out)
    have hs1 : ∀ w, (Instr.slice 29 (.slice A n c) (some (.int .u64 (d : Int))) none none).run Try.prog w = .ok (.slice (cutA A c d 1) m (c - d)) w := fun w => by
      rw [run_cutLU elB A n c d HD.out.1 w, HD.out.2]
    have hs2 : ∀ w, (Instr.sliceAt 29 (.slice A n c) (some (.int .u64 (d : Int))) none none).run Try.prog w = .ok (.slice (cutA A c d 1) m (c - d)) w := fun w => (run_sliceAt_slice w _ _ _ _ _ HU.out).trans (hs1 w)
    have HR7 := Sh.mk (show Rd w6 w.heap.size 1 (cutA A c d 1) m (ns .u8 (bs.drop d)) by
      have h := HR6.out.drop (k := d) HD.out.1 HNC.out
      rw [Nat.mul_one, HD.out.2] at h
      rw [show cutA A c d 1 = (if c = d then A else A.map (·.add d)) by unfold cutA; rw [Nat.mul_one]]
      simpa [ns] using h)
    generalize cutA A c d 1 = AC at hs1 hs2 HR7
    generalize c - d = cc at hs1 hs2
    have hroom : (([] : List Nat).length + (bs.drop d).length) * 1 ≤ room := room_ge (by have := HN6.out; rw [List.length_drop, List.length_nil]; omega)
    have p0 : (w6.alloc (.cells #[] 5)).cell? ⟨w.heap.size, 0, none⟩ = some (.slice A n c) := by rw [(KX.out.alloc (.cells #[] 5)).cell]; rfl
    have p1 : (w6.alloc (.cells #[] 5)).cell? ⟨w.heap.size, 1, none⟩ = some (.int .u64 (base : Int)) := by rw [(KX.out.alloc (.cells #[] 5)).cell]; rfl
    have p2 : (w6.alloc (.cells #[] 5)).cell? ⟨w.heap.size, 2, none⟩ = some (.int .i64 (size : Int)) := by rw [(KX.out.alloc (.cells #[] 5)).cell]; rfl
    have p3 : (w6.alloc (.cells #[] 5)).cell? ⟨w.heap.size, 3, none⟩ = some (.bool cl) := by rw [(KX.out.alloc (.cells #[] 5)).cell]; rfl
    have p4 : (w6.alloc (.cells #[] 5)).cell? ⟨w.heap.size, 4, none⟩ = some (.bool true) := by rw [(KX.out.alloc (.cells #[] 5)).cell]; rfl
    go_wp2_with (at_builtin; go_must (refine appn elB rfl _ _ rfl rfl (Nats.lit0 (B := w6.heap.size) w6 5 .u8 (Nat.le_refl _)) rfl (HR7.out.alloc (by have := HZ.out; omega) _) hroom (by simp) ?_))
    intro v8 w8 hv8 _ hb8
    have hb8' : Below w6.heap.size w6 w8 := ((Below.refl _ _).alloc (Nat.le_refl _) _).trans hb8
    replace b1 := Sh.mk (b1.out.trans (hb8'.mono (by have := HZ.out; omega)))
    replace KX := Sh.mk (KX.out.below hb8' KX.out.lt)
    replace KR := Sh.mk (KR.out.below hb8' KR.out.lt)
    have HV := Sh.mk (show Nats w8 5 .u8 (w.heap.size + 2) v8 (bs.drop d) from by simpa using hv8.mono HZ.out)
    obtain ⟨A8, n8, c8, rfl, _, _, _⟩ := HV.out.out
    clear c0 c1 c2 c3 c4 hv8 hb8 hb8' hs1 hs2 HR6 HR7 HZ p0 p1 p2 p3 p4
    have c0 : w8.cell? ⟨w.heap.size, 0, none⟩ = some (.slice A n c) := by rw [KX.out.cell]; rfl
    have c1 : w8.cell? ⟨w.heap.size, 1, none⟩ = some (.int .u64 (base : Int)) := by rw [KX.out.cell]; rfl
    have c2 : w8.cell? ⟨w.heap.size, 2, none⟩ = some (.int .i64 (size : Int)) := by rw [KX.out.cell]; rfl
    have c3 : w8.cell? ⟨w.heap.size, 3, none⟩ = some (.bool cl) := by rw [KX.out.cell]; rfl
    have c4 : w8.cell? ⟨w.heap.size, 4, none⟩ = some (.bool true) := by rw [KX.out.cell]; rfl
    have hfz0 := KX.out.frozen 0
    go_upto_region 7 with fail
    have hs8 : Solo w.heap.size w8 (w8.setCell ⟨w.heap.size, 0, none⟩ (.slice A8 n8 c8)) := Solo.refl.setCell 0 _
    replace KX := Sh.mk (show Blk _ _ _ #[.slice A8 n8 c8, .int .u64 (base : Int), .int .i64 (size : Int), .bool cl, .bool true] from KX.out.set 0 (.slice A8 n8 c8))
    replace KR := Sh.mk (hs8.blk KR.out (by omega))
    replace b1 := Sh.mk (b1.out.trans (hs8.1.mono (Nat.le_refl _)))
    replace HV := Sh.mk (HV.out.kept (w' := w8.setCell ⟨w.heap.size, 0, none⟩ (.slice A8 n8 c8)) fun i hi => hs8.2.2 i (by have h := (HV.out.lt i hi).1; omega))
    generalize w8.setCell ⟨w.heap.size, 0, none⟩ (.slice A8 n8 c8) = w9 at KX KR b1 HV ⊢
    clear hs8 hfz0 c0 c1 c2 c3 c4
    have c0 : w9.cell? ⟨w.heap.size, 0, none⟩ = some (.slice A8 n8 c8) := by rw [KX.out.cell]; rfl
    have c1 : w9.cell? ⟨w.heap.size, 1, none⟩ = some (.int .u64 (base : Int)) := by rw [KX.out.cell]; rfl
    have c2 : w9.cell? ⟨w.heap.size, 2, none⟩ = some (.int .i64 (size : Int)) := by rw [KX.out.cell]; rfl
    have c3 : w9.cell? ⟨w.heap.size, 3, none⟩ = some (.bool cl) := by rw [KX.out.cell]; rfl
    have c4 : w9.cell? ⟨w.heap.size, 4, none⟩ = some (.bool true) := by rw [KX.out.cell]; rfl
    have hfz1 := KX.out.frozen 1
    go_upto_region 8 with fail
    have hs9 : Solo w.heap.size w9 (w9.setCell ⟨w.heap.size, 1, none⟩ (.int .u64 (z : Int))) := Solo.refl.setCell 1 _
    replace KX := Sh.mk (show Blk _ _ _ #[.slice A8 n8 c8, .int .u64 (z : Int), .int .i64 (size : Int), .bool cl, .bool true] from KX.out.set 1 (.int .u64 (z : Int)))
    replace KR := Sh.mk (hs9.blk KR.out (by omega))
    replace b1 := Sh.mk (b1.out.trans (hs9.1.mono (Nat.le_refl _)))
    replace HV := Sh.mk (HV.out.kept (w' := w9.setCell ⟨w.heap.size, 1, none⟩ (.int .u64 (z : Int))) fun i hi => hs9.2.2 i (by have h := (HV.out.lt i hi).1; omega))
    generalize w9.setCell ⟨w.heap.size, 1, none⟩ (.int .u64 (z : Int)) = wa at KX KR b1 HV ⊢
    clear hs9 hfz1 c0 c1 c2 c3 c4
    have c0 : wa.cell? ⟨w.heap.size, 0, none⟩ = some (.slice A8 n8 c8) := by rw [KX.out.cell]; rfl
    have c1 : wa.cell? ⟨w.heap.size, 1, none⟩ = some (.int .u64 (z : Int)) := by rw [KX.out.cell]; rfl
    have c2 : wa.cell? ⟨w.heap.size, 2, none⟩ = some (.int .i64 (size : Int)) := by rw [KX.out.cell]; rfl
    have c3 : wa.cell? ⟨w.heap.size, 3, none⟩ = some (.bool cl) := by rw [KX.out.cell]; rfl
    have c4 : wa.cell? ⟨w.heap.size, 4, none⟩ = some (.bool true) := by rw [KX.out.cell]; rfl
    go_wp2_with (refine stm_store (cs' := #[.slice A8 n8 c8, .int .u64 (z : Int), .int .i64 (size : Int), .bool cl, .bool true]) KR.out rfl _ _ rfl rfl rfl (by simp) (by kernel_rfl) (by simp [Value.oneCell']) (by simp [setL]) fun wb hk hs => ?_)
    go_wp2_with fail
    have r0 : wb.cell? ⟨(w.heap.size + 1), 0, none⟩ = some (.slice A8 n8 c8) := by rw [hk.cell]; rfl
    have r1 : wb.cell? ⟨(w.heap.size + 1), 1, none⟩ = some (.int .u64 (z : Int)) := by rw [hk.cell]; rfl
    have r2 : wb.cell? ⟨(w.heap.size + 1), 2, none⟩ = some (.int .i64 (size : Int)) := by rw [hk.cell]; rfl
    have r3 : wb.cell? ⟨(w.heap.size + 1), 3, none⟩ = some (.bool cl) := by rw [hk.cell]; rfl
    have r4 : wb.cell? ⟨(w.heap.size + 1), 4, none⟩ = some (.bool true) := by rw [hk.cell]; rfl
    refine bodyPost_ret (v := .tuple #[.agg #[.slice A8 n8 c8, .int .u64 (z : Int), .int .i64 (size : Int), .bool cl, .bool true], .bool true]) (by simp [results, Try.results26, go_sem, r0, r1, r2, r3, r4]) rfl ?_
    exact ⟨_, rfl, (HV.out.kept (w' := wb) fun i hi => hs.2.2 i (by have h := (HV.out.lt i hi).1; omega)).mono (by omega), b1.out.trans (hs.1.mono (by omega))⟩
  · have f' : (to : Int) ≤ (e : Int) := by omega
    have f2 : to ≤ e := by omega
    have hdc : decide (e < to) = false := decide_eq_false f
    rw [hdc]
    obtain rfl : z = to := by omega
    clear he hz htop hb hdc f
    go_enter Try.func26, Try.ntmps26
    go_upto_region 1 with fail
    have KX : Hid (Blk (w.alloc (.cells #[.slice A n c, .int .u64 (base : Int), .int .i64 (size : Int), .bool cl, .bool false] 31)) (w.heap.size) 31 #[.slice A n c, .int .u64 (base : Int), .int .i64 (size : Int), .bool cl, .bool false]) := Lib.hid ((Blk.new w 31 #[.slice A n c, .int .u64 (base : Int), .int .i64 (size : Int), .bool cl, .bool false]))
    replace KX : Hid (Blk ((w.alloc (.cells #[.slice A n c, .int .u64 (base : Int), .int .i64 (size : Int), .bool cl, .bool false] 31)).alloc (.cells #[.slice none 0 0, .int .u64 0, .int .i64 0, .bool false, .bool false] 31)) (w.heap.size) 31 #[.slice A n c, .int .u64 (base : Int), .int .i64 (size : Int), .bool cl, .bool false]) := Lib.hid (KX.out.alloc _)
    have KR : Hid (Blk ((w.alloc (.cells #[.slice A n c, .int .u64 (base : Int), .int .i64 (size : Int), .bool cl, .bool false] 31)).alloc (.cells #[.slice none 0 0, .int .u64 0, .int .i64 0, .bool false, .bool false] 31)) (w.heap.size + 1) 31 #[.slice none 0 0, .int .u64 0, .int .i64 0, .bool false, .bool false]) := Lib.hid ((Blk.new (w.alloc (.cells #[.slice A n c, .int .u64 (base : Int), .int .i64 (size : Int), .bool cl, .bool false] 31)) 31 #[.slice none 0 0, .int .u64 0, .int .i64 0, .bool false, .bool false]) |> fun h => by simpa using h)
    have b1 : Hid (Below w.heap.size w ((w.alloc (.cells #[.slice A n c, .int .u64 (base : Int), .int .i64 (size : Int), .bool cl, .bool false] 31)).alloc (.cells #[.slice none 0 0, .int .u64 0, .int .i64 0, .bool false, .bool false] 31))) := Lib.hid (((Below.refl w.heap.size w).alloc (Nat.le_refl _) (.cells #[.slice A n c, .int .u64 (base : Int), .int .i64 (size : Int), .bool cl, .bool false] 31)).alloc (by simp <;> omega) (.cells #[.slice none 0 0, .int .u64 0, .int .i64 0, .bool false, .bool false] 31))
    have hz : ((w.alloc (.cells #[.slice A n c, .int .u64 (base : Int), .int .i64 (size : Int), .bool cl, .bool false] 31)).alloc (.cells #[.slice none 0 0, .int .u64 0, .int .i64 0, .bool false, .bool false] 31)).heap.size = w.heap.size + 2 := by simp
    generalize ((w.alloc (.cells #[.slice A n c, .int .u64 (base : Int), .int .i64 (size : Int), .bool cl, .bool false] 31)).alloc (.cells #[.slice none 0 0, .int .u64 0, .int .i64 0, .bool false, .bool false] 31)) = w2 at KX KR b1 hz ⊢
    have HZ := Lib.hid hz
    clear hz
    have c0 : w2.cell? ⟨w.heap.size, 0, none⟩ = some (.slice A n c) := by rw [KX.out.cell]; rfl
    have c1 : w2.cell? ⟨w.heap.size, 1, none⟩ = some (.int .u64 (base : Int)) := by rw [KX.out.cell]; rfl
    have c2 : w2.cell? ⟨w.heap.size, 2, none⟩ = some (.int .i64 (size : Int)) := by rw [KX.out.cell]; rfl
    have c3 : w2.cell? ⟨w.heap.size, 3, none⟩ = some (.bool cl) := by rw [KX.out.cell]; rfl
    have c4 : w2.cell? ⟨w.heap.size, 4, none⟩ = some (.bool false) := by rw [KX.out.cell]; rfl
    go_wp2_with fail
    refine (RT.out _).mono ?_
    rintro e' w3 ⟨rfl, b3⟩
    replace b1 := Sh.mk (b1.out.trans (b3.mono (by have := HZ.out; omega)))
    replace KX := Sh.mk (KX.out.below b3 KX.out.lt)
    replace KR := Sh.mk (KR.out.below b3 KR.out.lt)
    replace HZ := Sh.mk (show w.heap.size + 2 ≤ w3.heap.size by have := HZ.out; have := b3.size; omega)
    clear c0 c1 c2 c3 c4 b3
    have c0 : w3.cell? ⟨w.heap.size, 0, none⟩ = some (.slice A n c) := by rw [KX.out.cell]; rfl
    have c1 : w3.cell? ⟨w.heap.size, 1, none⟩ = some (.int .u64 (base : Int)) := by rw [KX.out.cell]; rfl
    have c2 : w3.cell? ⟨w.heap.size, 2, none⟩ = some (.int .i64 (size : Int)) := by rw [KX.out.cell]; rfl
    have c3 : w3.cell? ⟨w.heap.size, 3, none⟩ = some (.bool cl) := by rw [KX.out.cell]; rfl
    have c4 : w3.cell? ⟨w.heap.size, 4, none⟩ = some (.bool false) := by rw [KX.out.cell]; rfl
    go_wp2_with fail
    refine (RE.out _).mono ?_
    rintro e' w4 ⟨rfl, b3⟩
    replace b1 := Sh.mk (b1.out.trans (b3.mono (by have := HZ.out; omega)))
    replace KX := Sh.mk (KX.out.below b3 KX.out.lt)
    replace KR := Sh.mk (KR.out.below b3 KR.out.lt)
    replace HZ := Sh.mk (show w.heap.size + 2 ≤ w4.heap.size by have := HZ.out; have := b3.size; omega)
    clear c0 c1 c2 c3 c4 b3
    have c0 : w4.cell? ⟨w.heap.size, 0, none⟩ = some (.slice A n c) := by rw [KX.out.cell]; rfl
    have c1 : w4.cell? ⟨w.heap.size, 1, none⟩ = some (.int .u64 (base : Int)) := by rw [KX.out.cell]; rfl
    have c2 : w4.cell? ⟨w.heap.size, 2, none⟩ = some (.int .i64 (size : Int)) := by rw [KX.out.cell]; rfl
    have c3 : w4.cell? ⟨w.heap.size, 3, none⟩ = some (.bool cl) := by rw [KX.out.cell]; rfl
    have c4 : w4.cell? ⟨w.heap.size, 4, none⟩ = some (.bool false) := by rw [KX.out.cell]; rfl
    have HR6 := Sh.mk (HX.out.below b1.out)
    have hs1 : ∀ w, (Instr.slice 29 (.slice A n c) (some (.int .u64 (d : Int))) none none).run Try.prog w = .ok (.slice (cutA A c d 1) m (c - d)) w := fun w => by
      rw [run_cutLU elB A n c d HD.out.1 w, HD.out.2]
    have hs2 : ∀ w, (Instr.sliceAt 29 (.slice A n c) (some (.int .u64 (d : Int))) none none).run Try.prog w = .ok (.slice (cutA A c d 1) m (c - d)) w := fun w => (run_sliceAt_slice w _ _ _ _ _ HU.out).trans (hs1 w)
    have HR7 := Sh.mk (show Rd w4 w.heap.size 1 (cutA A c d 1) m (ns .u8 (bs.drop d)) by
      have h := HR6.out.drop (k := d) HD.out.1 HNC.out
      rw [Nat.mul_one, HD.out.2] at h
      rw [show cutA A c d 1 = (if c = d then A else A.map (·.add d)) by unfold cutA; rw [Nat.mul_one]]
      simpa [ns] using h)
    generalize cutA A c d 1 = AC at hs1 hs2 HR7
    generalize c - d = cc at hs1 hs2
    have hroom : (([] : List Nat).length + (bs.drop d).length) * 1 ≤ room := room_ge (by have := HN6.out; rw [List.length_drop, List.length_nil]; omega)
    have p0 : (w4.alloc (.cells #[] 5)).cell? ⟨w.heap.size, 0, none⟩ = some (.slice A n c) := by rw [(KX.out.alloc (.cells #[] 5)).cell]; rfl
    have p1 : (w4.alloc (.cells #[] 5)).cell? ⟨w.heap.size, 1, none⟩ = some (.int .u64 (base : Int)) := by rw [(KX.out.alloc (.cells #[] 5)).cell]; rfl
    have p2 : (w4.alloc (.cells #[] 5)).cell? ⟨w.heap.size, 2, none⟩ = some (.int .i64 (size : Int)) := by rw [(KX.out.alloc (.cells #[] 5)).cell]; rfl
    have p3 : (w4.alloc (.cells #[] 5)).cell? ⟨w.heap.size, 3, none⟩ = some (.bool cl) := by rw [(KX.out.alloc (.cells #[] 5)).cell]; rfl
    have p4 : (w4.alloc (.cells #[] 5)).cell? ⟨w.heap.size, 4, none⟩ = some (.bool false) := by rw [(KX.out.alloc (.cells #[] 5)).cell]; rfl
    go_wp2_with (at_builtin; go_must (refine appn elB rfl _ _ rfl rfl (Nats.lit0 (B := w4.heap.size) w4 5 .u8 (Nat.le_refl _)) rfl (HR7.out.alloc (by have := HZ.out; omega) _) hroom (by simp) ?_))
    intro v8 w8 hv8 _ hb8
    have hb8' : Below w4.heap.size w4 w8 := ((Below.refl _ _).alloc (Nat.le_refl _) _).trans hb8
    replace b1 := Sh.mk (b1.out.trans (hb8'.mono (by have := HZ.out; omega)))
    replace KX := Sh.mk (KX.out.below hb8' KX.out.lt)
    replace KR := Sh.mk (KR.out.below hb8' KR.out.lt)
    have HV := Sh.mk (show Nats w8 5 .u8 (w.heap.size + 2) v8 (bs.drop d) from by simpa using hv8.mono HZ.out)
    obtain ⟨A8, n8, c8, rfl, _, _, _⟩ := HV.out.out
    clear c0 c1 c2 c3 c4 hv8 hb8 hb8' hs1 hs2 HR6 HR7 HZ p0 p1 p2 p3 p4
    have c0 : w8.cell? ⟨w.heap.size, 0, none⟩ = some (.slice A n c) := by rw [KX.out.cell]; rfl
    have c1 : w8.cell? ⟨w.heap.size, 1, none⟩ = some (.int .u64 (base : Int)) := by rw [KX.out.cell]; rfl
    have c2 : w8.cell? ⟨w.heap.size, 2, none⟩ = some (.int .i64 (size : Int)) := by rw [KX.out.cell]; rfl
    have c3 : w8.cell? ⟨w.heap.size, 3, none⟩ = some (.bool cl) := by rw [KX.out.cell]; rfl
    have c4 : w8.cell? ⟨w.heap.size, 4, none⟩ = some (.bool false) := by rw [KX.out.cell]; rfl
    have hfz0 := KX.out.frozen 0
    go_upto_region 7 with fail
    have hs8 : Solo w.heap.size w8 (w8.setCell ⟨w.heap.size, 0, none⟩ (.slice A8 n8 c8)) := Solo.refl.setCell 0 _
    replace KX := Sh.mk (show Blk _ _ _ #[.slice A8 n8 c8, .int .u64 (base : Int), .int .i64 (size : Int), .bool cl, .bool false] from KX.out.set 0 (.slice A8 n8 c8))
    replace KR := Sh.mk (hs8.blk KR.out (by omega))
    replace b1 := Sh.mk (b1.out.trans (hs8.1.mono (Nat.le_refl _)))
    replace HV := Sh.mk (HV.out.kept (w' := w8.setCell ⟨w.heap.size, 0, none⟩ (.slice A8 n8 c8)) fun i hi => hs8.2.2 i (by have h := (HV.out.lt i hi).1; omega))
    generalize w8.setCell ⟨w.heap.size, 0, none⟩ (.slice A8 n8 c8) = w9 at KX KR b1 HV ⊢
    clear hs8 hfz0 c0 c1 c2 c3 c4
    have c0 : w9.cell? ⟨w.heap.size, 0, none⟩ = some (.slice A8 n8 c8) := by rw [KX.out.cell]; rfl
    have c1 : w9.cell? ⟨w.heap.size, 1, none⟩ = some (.int .u64 (base : Int)) := by rw [KX.out.cell]; rfl
    have c2 : w9.cell? ⟨w.heap.size, 2, none⟩ = some (.int .i64 (size : Int)) := by rw [KX.out.cell]; rfl
    have c3 : w9.cell? ⟨w.heap.size, 3, none⟩ = some (.bool cl) := by rw [KX.out.cell]; rfl
    have c4 : w9.cell? ⟨w.heap.size, 4, none⟩ = some (.bool false) := by rw [KX.out.cell]; rfl
    have hfz1 := KX.out.frozen 1
    go_upto_region 8 with fail
    have hs9 : Solo w.heap.size w9 (w9.setCell ⟨w.heap.size, 1, none⟩ (.int .u64 (z : Int))) := Solo.refl.setCell 1 _
    replace KX := Sh.mk (show Blk _ _ _ #[.slice A8 n8 c8, .int .u64 (z : Int), .int .i64 (size : Int), .bool cl, .bool false] from KX.out.set 1 (.int .u64 (z : Int)))
    replace KR := Sh.mk (hs9.blk KR.out (by omega))
    replace b1 := Sh.mk (b1.out.trans (hs9.1.mono (Nat.le_refl _)))
    replace HV := Sh.mk (HV.out.kept (w' := w9.setCell ⟨w.heap.size, 1, none⟩ (.int .u64 (z : Int))) fun i hi => hs9.2.2 i (by have h := (HV.out.lt i hi).1; omega))
    generalize w9.setCell ⟨w.heap.size, 1, none⟩ (.int .u64 (z : Int)) = wa at KX KR b1 HV ⊢
    clear hs9 hfz1 c0 c1 c2 c3 c4
    have c0 : wa.cell? ⟨w.heap.size, 0, none⟩ = some (.slice A8 n8 c8) := by rw [KX.out.cell]; rfl
    have c1 : wa.cell? ⟨w.heap.size, 1, none⟩ = some (.int .u64 (z : Int)) := by rw [KX.out.cell]; rfl
    have c2 : wa.cell? ⟨w.heap.size, 2, none⟩ = some (.int .i64 (size : Int)) := by rw [KX.out.cell]; rfl
    have c3 : wa.cell? ⟨w.heap.size, 3, none⟩ = some (.bool cl) := by rw [KX.out.cell]; rfl
    have c4 : wa.cell? ⟨w.heap.size, 4, none⟩ = some (.bool false) := by rw [KX.out.cell]; rfl
    go_wp2_with (refine stm_store (cs' := #[.slice A8 n8 c8, .int .u64 (z : Int), .int .i64 (size : Int), .bool cl, .bool false]) KR.out rfl _ _ rfl rfl rfl (by simp) (by kernel_rfl) (by simp [Value.oneCell']) (by simp [setL]) fun wb hk hs => ?_)
    go_wp2_with fail
    have r0 : wb.cell? ⟨(w.heap.size + 1), 0, none⟩ = some (.slice A8 n8 c8) := by rw [hk.cell]; rfl
    have r1 : wb.cell? ⟨(w.heap.size + 1), 1, none⟩ = some (.int .u64 (z : Int)) := by rw [hk.cell]; rfl
    have r2 : wb.cell? ⟨(w.heap.size + 1), 2, none⟩ = some (.int .i64 (size : Int)) := by rw [hk.cell]; rfl
    have r3 : wb.cell? ⟨(w.heap.size + 1), 3, none⟩ = some (.bool cl) := by rw [hk.cell]; rfl
    have r4 : wb.cell? ⟨(w.heap.size + 1), 4, none⟩ = some (.bool false) := by rw [hk.cell]; rfl
    refine bodyPost_ret (v := .tuple #[.agg #[.slice A8 n8 c8, .int .u64 (z : Int), .int .i64 (size : Int), .bool cl, .bool false], .bool true]) (by simp [results, Try.results26, go_sem, r0, r1, r2, r3, r4]) rfl ?_
    exact ⟨_, rfl, (HV.out.kept (w' := wb) fun i hi => hs.2.2 i (by have h := (HV.out.lt i hi).1; omega)).mono (by omega), b1.out.trans (hs.1.mono (by omega))⟩
end Go.Proofs.Ytmkjclgdiikjdaa
