/- slices.Chunk at rows of uint64, two at once; its iterator. -/
import Derived.RangeFuncNested
import Derived.RangeFuncBound
import Derived.RangeFuncCalls
import Derived.RangeFuncLeaves
import Derived.Shelf.Abstract
import Derived.Shelf.RegionOpen
import Derived.WalkKit
import Derived.OwnWalkIn
import Derived.TacticsInMore
import Derived.LoopNIn
import Derived.LoopIn
import Derived.Sort.QuietIn
import Derived.Test.YtpnnadnmkiobcaaG22SackBack
import Derived.Test.YtpnnadnmkiobcaaG18SackBack
import Derived.Test.YtpnnadnmkiobcaaRows

namespace Go.Proofs.Ytpnnadnmkiobcaa
open Go.RowKit Go.Shelf
set_option linter.unusedVariables false
set_option linter.unusedSimpArgs false
attribute [local go_sem] Oper.semAt_some
theorem qEl : El Try.prog 52 46 (.int .u64 0) 1 8 := ⟨Try.underlying52, by kernel_rfl, rfl, by decide, by decide⟩
set_option maxRecDepth 20000 in
set_option maxHeartbeats 2000000 in
theorem chunk_any (A : Option Addr) (n c : Nat) (w : World) :
    Calls Try.prog 20 #[.slice A n c, .int .i64 2] w fun e w' => e = .returned (.func (.func 32) #[] #[.pointer (some ⟨w.heap.size, 0, none⟩), .pointer (some ⟨w.heap.size + 1, 0, none⟩)]) ∧ w' = (w.alloc (.cells #[.slice A n c] 52)).alloc (.cells #[.int .i64 2] 3) := by
  go_enter Try.func20, Try.ntmps20
  go_wp2_with fail
  go_ret
  refine ⟨?_, rfl⟩
  simp
/-- A round's slice: the k-th pair. -/
def pairV (b off k : Nat) : Array Value := #[.slice (some ⟨b, off + 2 * k, none⟩) 2 2]
def upto (k : Nat) : List Nat := List.range k
theorem upto_succ (k : Nat) : upto (k + 1) = upto k ++ [k] := List.range_succ
/-- The two boxes of the iterator lie as they lay. -/
def KC (Bs Bn : Nat) (W W' : World) : Prop := W'.cell? ⟨Bs, 0, none⟩ = W.cell? ⟨Bs, 0, none⟩ ∧ W'.cell? ⟨Bn, 0, none⟩ = W.cell? ⟨Bn, 0, none⟩
theorem KC.trans {Bs Bn : Nat} {A B C : World} (h : KC Bs Bn A B) (k : KC Bs Bn B C) : KC Bs Bn A C := ⟨k.1.trans h.1, k.2.trans h.2⟩
theorem upto_length (k : Nat) : (upto k).length = k := List.length_range
set_option maxRecDepth 100000 in
set_option maxHeartbeats 4000000 in
theorem chunk1_in (n : Nat) (hn : 1 ≤ n) (l Bs Bn b off m cap : Nat) (hcap : 2 * m ≤ cap) (hm : m ≤ 1000) (J Jx : List Nat → World → Prop) (hJa : ∀ pre W q, J pre W → J pre (W.drewN q))
    (hY : ∀ pre x W, x < m → J pre W → pre.length < m → YieldAt Fence.wide (n - 1) Try.prog l (pairV b off x) W fun e W' =>
      (e = .returned (.bool true) ∧ J (pre ++ [x]) W' ∧ KC Bs Bn W W') ∨ (e = .returned (.bool false) ∧ Jx (pre ++ [x]) W'))
    (W : World) (hBs : W.cell? ⟨Bs, 0, none⟩ = some (.slice (some ⟨b, off, none⟩) (2 * m) cap)) (hBn : W.cell? ⟨Bn, 0, none⟩ = some (.int .i64 2)) (h0 : J [] W) :
    CallsIn Fence.wide n Try.prog 32 #[.func (.yield l) #[] #[], .pointer (some ⟨Bs, 0, none⟩), .pointer (some ⟨Bn, 0, none⟩)] W fun e W' => (∃ v, e = .returned v) ∧
      ((∃ ys, ys = upto m ∧ J ys W') ∨ (∃ pre, (∃ k, k ≤ m ∧ pre = upto k) ∧ Jx pre W')) := by
  refine callsIn_of_wp Try.func32 rfl trivial ?_ rfl
  simp only [Try.ntmps32, List.size_toArray, List.length_cons, List.length_nil, Nat.reduceAdd, Nat.reduceSub, Array.replicate_succ, Array.replicate_zero, List.push_toArray, List.append_toArray, List.nil_append, List.cons_append]
  gi_wp2
  gi_loopw [4, 5] (fun iv ev wr => ∃ k i : Nat, k ≤ m ∧ i = 2 * k ∧ iv = .int .i64 (i : Nat) ∧ J (upto k) wr ∧ KC Bs Bn W wr) (fun iv _ _ => 2 * m - (intOf iv).toNat)
  case atStart => exact ⟨0, 0, Nat.zero_le _, rfl, rfl, h0, ⟨rfl, rfl⟩⟩
  case round =>
    obtain ⟨k, i, hk, hi, rfl, hJs, hnx⟩ := hrel
    have hbs := hnx.1.trans hBs
    have hbn := hnx.2.trans hBn
    by_cases hlt : k < m
    · have hlt' : (i : Int) < 2 * (m : Int) := by omega
      have hlt2 : i < 2 * m := by omega
      obtain ⟨d, hd⟩ : ∃ d, d = 2 * m - i := ⟨_, rfl⟩
      obtain ⟨e, he⟩ : ∃ e, e = i + 2 := ⟨_, rfl⟩
      obtain ⟨A3, c3, hs1⟩ : ∃ A3 c3, ∀ w', (Instr.slice 52 (.slice (some ⟨b, off, none⟩) (2 * m) cap) (some (.int .i64 (i : Int))) none none).run Try.prog w' = .ok (.slice A3 d c3) w' := ⟨_, _, fun w' => by
        rw [hd]
        exact run_cut_l qEl _ _ _ _ (by omega) w'⟩
      have hs2 : ∀ w', (Instr.slice 52 (.slice (some ⟨b, off, none⟩) (2 * m) cap) (some (.int .i64 (i : Int))) (some (.int .i64 (e : Int))) (some (.int .i64 (e : Int)))).run Try.prog w' = .ok (.slice (some ⟨b, off + i, none⟩) 2 2) w' := fun w' => by
        have h := run_cut_lhm qEl (some ⟨b, off, none⟩) (2 * m) cap i e e (by omega) (Nat.le_refl _) (by omega) w'
        rw [h]
        unfold cutA
        rw [if_neg (by omega)]
        simp [addr_add, he]
      have hei : (i : Int) + 2 = (e : Nat) := by omega
      have hd2 : ¬ (d : Int) < 2 := by omega
      have hd2n : ¬ d < 2 := by omega
      have hib : i ≤ 2000 := by omega
      have hi0 : ¬ (i : Int) < 0 := by omega
      have HI := Lib.hid hi
      have HE := Lib.hid he
      clear hi hd he
      gi_wp2
      gi_quiet (fail)
      rename_i nq
      have hJq : J (upto k) (wr.drewN nq) := hJa _ _ nq hJs
      have hbs : (wr.drewN nq).cell? ⟨Bs, 0, none⟩ = some (.slice (some ⟨b, off, none⟩) (2 * m) cap) := hbs
      have hbn : (wr.drewN nq).cell? ⟨Bn, 0, none⟩ = some (.int .i64 2) := hbn
      have hnx : KC Bs Bn W (wr.drewN nq) := hnx
      generalize wr.drewN nq = wq at hJq hbs hbn hnx ⊢
      clear hJs
      obtain ⟨fn, tmps, assign, body, hy, hR⟩ := hY _ k wq hlt hJq (by rw [upto_length]; exact hlt)
      unfold pairV at hy
      rw [← HI.out] at hy
      gi_wp2
      refine hR.mono ?_
      rintro e9 W3 (⟨rfl, hJ3, hk3⟩ | ⟨rfl, hJx3⟩)
      · have hbn3 := hk3.2.trans hbn
        gi_wp2
        go_roundw
        case rel => exact ⟨k + 1, e, by omega, by have := HI.out; have := HE.out; omega, rfl, by rw [upto_succ]; exact hJ3, hnx.trans hk3⟩
        case measure => have := HE.out; simp [intOf]; omega
      · gi_wp2
        refine bodyPost_ret (results_none rfl _ _ _) rfl ?_
        exact ⟨⟨_, rfl⟩, .inr ⟨_, ⟨k + 1, by omega, (upto_succ _).symm⟩, hJx3⟩⟩
    · obtain rfl : k = m := by omega
      have hge : ¬ (i : Int) < 2 * (k : Int) := by omega
      have hge2 : ¬ i < 2 * k := by omega
      clear hi
      gi_wp2
      go_end0
      exact ⟨⟨_, rfl⟩, .inl hJs⟩
/-- slices.Chunk(s, 2) hands back a value that gives the pairs, in order. -/
theorem chunk_stops (n : Nat) (hn : 1 ≤ n) (Bs Bn b off m cap : Nat) (hcap : 2 * m ≤ cap) (hm : m ≤ 1000) (w : World) (hBs : w.cell? ⟨Bs, 0, none⟩ = some (.slice (some ⟨b, off, none⟩) (2 * m) cap)) (hBn : w.cell? ⟨Bn, 0, none⟩ = some (.int .i64 2)) (hs : Bs < w.heap.size) (hs2 : Bn < w.heap.size) :
    SeqStopsK Fence.wide n Try.prog 32 #[.pointer (some ⟨Bs, 0, none⟩), .pointer (some ⟨Bn, 0, none⟩)] (fun x : Fin m => pairV b off x.1) (KC Bs Bn) (fun ys => ys.map (·.1) = upto m) (fun pre => ∃ k, k ≤ m ∧ pre.map (·.1) = upto k) m w := fun l J Jx W hW hJ hJx hY h0 => by
  have h1 := (hW.cell (p := ⟨Bs, 0, none⟩) hs).trans hBs
  have h2 := (hW.cell (p := ⟨Bn, 0, none⟩) hs2).trans hBn
  refine (chunk1_in n hn l Bs Bn b off m cap hcap hm (fun pre W => ∃ q : List (Fin m), q.map (·.1) = pre ∧ J q W) (fun pre W => ∃ q : List (Fin m), q.map (·.1) = pre ∧ Jx q W) ?_ ?_ W h1 h2 ⟨[], rfl, h0⟩).mono ?_
  · rintro pre W' q ⟨p, e, hp⟩
    exact ⟨p, e, hJ p W' (W'.drewN q) none hp ⟨rfl, rfl, rfl, Nat.le_refl _, fun _ _ _ => rfl⟩ (fun r e => by cases e)⟩
  · rintro pre x W' hx ⟨p, e, hp⟩ hlen
    refine YieldAt.mono (hY p ⟨x, hx⟩ W' hp (by rw [← e, List.length_map] at hlen; exact hlen)) ?_
    rintro e9 W2 (⟨rfl, h3, h4⟩ | ⟨rfl, h3⟩)
    · exact .inl ⟨rfl, ⟨_, by rw [List.map_append, e]; rfl, h3⟩, h4⟩
    · exact .inr ⟨rfl, ⟨_, by rw [List.map_append, e]; rfl, h3⟩⟩
  · rintro e W' ⟨he, ⟨ys, rfl, q, hq, hj⟩ | ⟨pre, ⟨k, hk, rfl⟩, q, hq, hj⟩⟩
    · exact ⟨he, .inl ⟨q, hq, hj⟩⟩
    · exact ⟨he, .inr ⟨q, ⟨k, hk, hq⟩, hj⟩⟩
end Go.Proofs.Ytpnnadnmkiobcaa
