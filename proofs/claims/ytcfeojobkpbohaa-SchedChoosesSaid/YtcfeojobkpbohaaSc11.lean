/- Layer 19 by the document: paths put into their order one by one. -/
import Derived.Test.YtcfeojobkpbohaaSc10
namespace Go.Proofs.Ytcfeojobkpbohaa
open Go.RowKit Go.Sort
set_option linter.unusedVariables false
set_option linter.unusedSimpArgs false
theorem rpEl : El Try.prog 30 41 (.agg #[.int .i64 0, .bool false, .bool false, .bool false, .int .i64 0, .int .i64 0, .int .i64 0]) 7 40 := ⟨Try.underlying30, by kernel_rfl, rfl, by omega, by omega⟩
theorem push_get (d : Array Pth) (x : Pth) {i : Nat} (hi : i < d.size) : (d.push x)[i]! = d[i]! := by
  rw [getElem!_pos (d.push x) i (by simp; omega), getElem!_pos d i hi, Array.getElem_push_lt]
theorem push_sorted {lt : Pth → Pth → Bool} {d : Array Pth} {x : Pth} {n : Nat} (h : SortedIn lt 0 n d) (hn : n = d.size) : SortedIn lt 0 n (d.push x) := fun i j hi hij hj => by
  rw [push_get d x (by omega), push_get d x (by omega)]
  exact h i j hi hij hj
set_option maxRecDepth 20000 in
set_option maxHeartbeats 4000000 in
theorem rorder_any (pol last n : Int) (A : Option Addr) (m c : Nat) (l : List Pth) (w : World) (h : Rd w w.heap.size 7 A m (pths l)) (hm : m ≤ 100) :
    Calls Try.prog 17 #[.int .i64 pol, .int .i64 last, .int .i64 n, .slice A m c] w fun e w' => ∃ (v : Value) (s : List Pth), e = .returned v ∧ w'.ownsRow w.heap.size 41 7 v s.length (pths s) ∧ Below w.heap.size w w' ∧ s.Perm (l.filter (fitP n)) ∧ s.Pairwise (fun x y => ltP pol last y x = false) := by
  have HR := Lib.hid h
  have HL := Lib.hid h.pthLen
  have HSO := Lib.hid (swoP pol last)
  have HO0 : Hid (w.ownsRow w.heap.size 41 7 (.slice none 0 0) (#[] : Array Pth).toList.length (pths (#[] : Array Pth).toList)) := Lib.hid (World.ownsRow_nil _ _ _ _)
  clear h
  go_enter Try.func17, Try.ntmps17
  go_wp2_with fail
  go_loopw [9, 10] (fun qv iv wr => ∃ (k : Nat) (d : Array Pth), k ≤ m ∧ iv = .int .i64 (k : Nat) ∧ Hid (wr.ownsRow w.heap.size 41 7 qv d.toList.length (pths d.toList)) ∧ Hid (Below w.heap.size w wr) ∧ Hid (d.toList.Perm ((l.take k).filter (fitP n))) ∧ Hid (SortedIn (ltP pol last) 0 d.size d)) (fun _ iv _ => m - (intOf iv).toNat)
  case atStart => exact ⟨0, #[], Nat.zero_le _, rfl, HO0, Lib.hid (Below.refl _ _), Lib.hid (by simp), Lib.hid (sorted_none (by simp))⟩
  case round =>
    clear HO0
    obtain ⟨k, d, hk, rfl, HO, BB, HP, HS⟩ := hrel
    by_cases hlt : k < m
    · have hlt' : (k : Int) < (m : Int) := by omega
      have hk0 : (0 : Int) ≤ (k : Int) := by omega
      obtain ⟨rb, off, x, hA, hrb, HC, HX⟩ := HR.out.pth hlt
      subst hA
      obtain ⟨a0, a1, a2, a3, a4, a5, a6⟩ := pt7 (w := wr) (o := off + k * 7) (fun j v hj => (BB.out.cell (p := ⟨rb, off + k * 7 + j, none⟩) hrb).trans (HC.out j v hj))
      have hdl : d.toList.length ≤ 100 := by rw [HP.out.length_eq]; have := fitl_le n l k; have := HL.out; omega
      cases hu : x.up
      · have HF := Sh.mk (show fitP n x = false by unfold fitP; rw [hu]; rfl)
        rw [hu] at a1
        clear hu
        have P2 := Lib.hid (show d.toList.Perm ((l.take (k + 1)).filter (fitP n)) by rw [fitl_no HX.out HF.out]; exact HP.out)
        clear HP HF
        go_wp2_with fail
        go_roundw
        case rel => exact ⟨k + 1, d, by omega, by go_num, HO, BB, P2, HS⟩
        case measure => simp [intOf]; omega
      · rw [hu] at a1
        by_cases hr : x.room < n
        · have hrd : decide (n ≤ x.room) = false := decide_eq_false (by omega)
          by_cases h0 : x.und = 0
          · have HF := Sh.mk (show fitP n x = true by unfold fitP; rw [hu, hrd, decide_eq_true h0]; rfl)
            have h0' : (x.und != 0) = false := by simp [h0]
            have CEX := Sh.mk (show (#[.int .i64 x.id, .bool true, .bool x.bk, .bool x.bd, .int .i64 x.room, .int .i64 x.und, .int .i64 x.mean] : Array Value).toList = x.cells.toList by simp [Pth.cells, hu])
            have CONE := Sh.mk (show ∀ u ∈ (#[.int .i64 x.id, .bool true, .bool x.bk, .bool x.bd, .int .i64 x.room, .int .i64 x.und, .int .i64 x.mean] : Array Value).toList, u.oneCell' = true from fun u hu => pth_one x u (CEX.out ▸ hu))
            clear hu h0 hrd
            have hroom : (d.toList.length + 1) * 40 ≤ room := room_ge (by omega)
            have hbw : w.heap.size ≤ wr.heap.size := BB.out.size
            go_wp2_with (at_builtin; go_must (refine appZ rpEl #[.int .i64 x.id, .bool true, .bool x.bk, .bool x.bd, .int .i64 x.room, .int .i64 x.und, .int .i64 x.mean] rfl CONE.out rfl _ _ rfl rfl HO.out rfl rfl hroom hbw ?_))
            intro v5 w5 ho5 hg5 hb5
            have B5 := Lib.hid (BB.out.trans hb5)
            have hd1 : pths d.toList ++ (#[.int .i64 x.id, .bool true, .bool x.bk, .bool x.bd, .int .i64 x.room, .int .i64 x.und, .int .i64 x.mean] : Array Value).toList = pths (d.push x).toList := by rw [Array.toList_push, pths_snoc, CEX.out]
            rw [hd1] at ho5
            obtain ⟨N, hN⟩ : ∃ N, N = d.size := ⟨_, rfl⟩
            obtain ⟨d1, hd⟩ : ∃ d1, d1 = d.push x := ⟨_, rfl⟩
            rw [← hd] at ho5
            have hs1 : d1.size = N + 1 := by rw [hd, hN]; simp
            obtain ⟨rb1, cc, rfl, hB, hnc, hcm, _, hrow⟩ := RowG.of_own ho5 (by simp only [Array.length_toList]; omega) (by omega)
            have hlen : d.size + 1 = N + 1 := by omega
            rw [hlen] at hnc ⊢
            have HCM := Lib.hid hcm
            have HBB := Lib.hid hB
            have HRW := Lib.hid hrow
            have HI := Lib.hid (InsS.start (show SortedIn (ltP pol last) 0 N d1 by rw [hd]; exact push_sorted (by rw [hN]; exact HS.out) hN))
            have PP := Lib.hid (show d1.toList.Perm ((l.take (k + 1)).filter (fitP n)) by rw [fitl_yes HX.out HF.out, hd, Array.toList_push]; exact HP.out.append_right _)
            have HS1 := Sh.mk hs1
            have hN100 : N ≤ 100 := by rw [hN]; simpa using hdl
            obtain ⟨n1, hn1⟩ : ∃ n1, n1 = N + 1 := ⟨_, rfl⟩
            rw [← hn1] at hnc ⊢
            have eN : (n1 : Int) - 1 = (N : Int) := by omega
            have eNw : IntKind.i64.wrap (N : Int) = (N : Int) := by rw [IntKind.wrap_i64]; omega
            have HN1 := Sh.mk hn1
            have hn1b : N < n1 := by omega
            clear ho5 hg5 hb5 hd1 hN hd hs1 hB hcm hrow hlen HF HP HS HO BB hroom hbw hdl hn1 a0 a1 a2 a3 a4 a5 a6
            go_wp2_with fail
            go_loopw [11] (fun jv wr => ∃ (j : Nat) (dj : Array Pth), jv = .int .i64 (j : Nat) ∧ j ≤ N ∧ Hid (RowG wr rb1 cc 7 41 Pth.el dj.toList) ∧ Hid (Tou rb1 w5 wr) ∧ Sh (dj.size = N + 1) ∧ Hid (InsS (ltP pol last) 0 N j dj) ∧ Hid (PermIn 0 (N + 1) d1 dj)) (fun jv _ => (intOf jv).toNat)
            case atStart => exact ⟨N, d1, rfl, Nat.le_refl _, HRW, Lib.hid (Tou.refl _ _), HS1, HI, Lib.hid (permIn_refl _ _ _)⟩
            case round =>
              clear HRW HI
              obtain ⟨j, dj, rfl, hj, G1, T1, HSJ, HJ, HPJ⟩ := hrel
              by_cases hj0 : 0 < j
              · obtain ⟨q, hq⟩ : ∃ q, q = j - 1 := ⟨_, rfl⟩
                have hjq : j = q + 1 := by omega
                have HJQ := Sh.mk hjq
                have e1 : (j : Int) - 1 = (q : Int) := by omega
                have e2 : IntKind.i64.wrap (q : Int) = (q : Int) := by rw [IntKind.wrap_i64]; omega
                have g0 : (0 : Int) ≤ (j : Int) := by omega
                have g00 : (0 : Int) < (j : Int) := by omega
                have g1 : (0 : Int) ≤ (q : Int) := by omega
                have g2 : (j : Int) < (n1 : Int) := by omega
                have g3 : (q : Int) < (n1 : Int) := by omega
                have hqj : q < j := by omega
                clear hq hjq
                have IL := Lib.hid (show j < dj.size by rw [HSJ.out]; omega)
                have JL := Lib.hid (show q < dj.size by rw [HSJ.out]; omega)
                obtain ⟨xi, hxi⟩ : ∃ x, x = dj[j]! := ⟨_, rfl⟩
                obtain ⟨xj, hxj⟩ : ∃ x, x = dj[q]! := ⟨_, rfl⟩
                have HXX := Lib.hid (show xi = dj[j]! ∧ xj = dj[q]! from ⟨hxi, hxj⟩)
                have LI := Lib.hid (show ∀ w2, RowG w2 rb1 cc 7 41 Pth.el dj.toList → ∀ r v, xi.el[r]? = some v → w2.cell? ⟨rb1, j * 7 + r, none⟩ = some v from fun w2 h2 => by rw [hxi]; exact rg_nth h2 IL.out)
                have LJ := Lib.hid (show ∀ w2, RowG w2 rb1 cc 7 41 Pth.el dj.toList → ∀ r v, xj.el[r]? = some v → w2.cell? ⟨rb1, q * 7 + r, none⟩ = some v from fun w2 h2 => by rw [hxj]; exact rg_nth h2 JL.out)
                clear hxi hxj
                have HC2 := Lib.hid (ahead_any pol last xi xj)
                cases hz : ltP pol last xi xj
                · rw [hz] at HC2
                  have HLT := Lib.hid (show ltP pol last dj[j]! dj[q]! = false by rw [← HXX.out.1, ← HXX.out.2]; exact hz)
                  have X4 := Lib.hid (show SortedIn (ltP pol last) 0 (N + 1) dj by
                    have h1 := HJ.out
                    have h2 := HLT.out
                    rw [HJQ.out] at h1 h2
                    exact InsS.stop HSO.out h1 (Nat.zero_le _) (by have := HJQ.out; omega) h2)
                  clear hz
                  go_wp2_with fail
                  refine wp_ext (by kernel_rfl) (by kernel_rfl) (fun QQ hQ => ?_)
                  (first | (refine x_load _ (by rfl) rfl rfl (by assumption) (by kernel_rfl) ?_; simp only [Act.put, List.setIfInBounds_toArray, List.set_cons_zero, List.set_cons_succ]) | (refine x_val (v := ?_) (by rfl) (fun w' hx => ?_) ?_; rotate_left; (focus (go_simp; (try with_reducible rfl))); (try simp only [Act.put, List.setIfInBounds_toArray, List.set_cons_zero, List.set_cons_succ])))
                  (first | (refine x_load _ (by rfl) rfl rfl (by assumption) (by kernel_rfl) ?_; simp only [Act.put, List.setIfInBounds_toArray, List.set_cons_zero, List.set_cons_succ]) | (refine x_val (v := ?_) (by rfl) (fun w' hx => ?_) ?_; rotate_left; (focus (go_simp; (try with_reducible rfl))); (try simp only [Act.put, List.setIfInBounds_toArray, List.set_cons_zero, List.set_cons_succ])))
                  (first | (refine x_load _ (by rfl) rfl rfl (by assumption) (by kernel_rfl) ?_; simp only [Act.put, List.setIfInBounds_toArray, List.set_cons_zero, List.set_cons_succ]) | (refine x_val (v := ?_) (by rfl) (fun w' hx => ?_) ?_; rotate_left; (focus (go_simp; (try with_reducible rfl))); (try simp only [Act.put, List.setIfInBounds_toArray, List.set_cons_zero, List.set_cons_succ])))
                  (first | (refine x_load _ (by rfl) rfl rfl (by assumption) (by kernel_rfl) ?_; simp only [Act.put, List.setIfInBounds_toArray, List.set_cons_zero, List.set_cons_succ]) | (refine x_val (v := ?_) (by rfl) (fun w' hx => ?_) ?_; rotate_left; (focus (go_simp; (try with_reducible rfl))); (try simp only [Act.put, List.setIfInBounds_toArray, List.set_cons_zero, List.set_cons_succ])))
                  (first | (refine x_load _ (by rfl) rfl rfl (by assumption) (by kernel_rfl) ?_; simp only [Act.put, List.setIfInBounds_toArray, List.set_cons_zero, List.set_cons_succ]) | (refine x_val (v := ?_) (by rfl) (fun w' hx => ?_) ?_; rotate_left; (focus (go_simp; (try with_reducible rfl))); (try simp only [Act.put, List.setIfInBounds_toArray, List.set_cons_zero, List.set_cons_succ])))
                  (first | (refine x_load _ (by rfl) rfl rfl (by assumption) (by kernel_rfl) ?_; simp only [Act.put, List.setIfInBounds_toArray, List.set_cons_zero, List.set_cons_succ]) | (refine x_val (v := ?_) (by rfl) (fun w' hx => ?_) ?_; rotate_left; (focus (go_simp; (try with_reducible rfl))); (try simp only [Act.put, List.setIfInBounds_toArray, List.set_cons_zero, List.set_cons_succ])))
                  refine x_loads _ [.int .i64 xi.id, .bool xi.up, .bool xi.bk, .bool xi.bd, .int .i64 xi.room, .int .i64 xi.und, .int .i64 xi.mean] (by rfl) rfl rfl (LI.out _ G1.out) (Nat.succ_pos _) (by kernel_rfl) (by kernel_rfl) ?_; simp only [Act.put, List.setIfInBounds_toArray, List.set_cons_zero, List.set_cons_succ]
                  (first | (refine x_load _ (by rfl) rfl rfl (by assumption) (by kernel_rfl) ?_; simp only [Act.put, List.setIfInBounds_toArray, List.set_cons_zero, List.set_cons_succ]) | (refine x_val (v := ?_) (by rfl) (fun w' hx => ?_) ?_; rotate_left; (focus (go_simp; (try with_reducible rfl))); (try simp only [Act.put, List.setIfInBounds_toArray, List.set_cons_zero, List.set_cons_succ])))
                  (first | (refine x_load _ (by rfl) rfl rfl (by assumption) (by kernel_rfl) ?_; simp only [Act.put, List.setIfInBounds_toArray, List.set_cons_zero, List.set_cons_succ]) | (refine x_val (v := ?_) (by rfl) (fun w' hx => ?_) ?_; rotate_left; (focus (go_simp; (try with_reducible rfl))); (try simp only [Act.put, List.setIfInBounds_toArray, List.set_cons_zero, List.set_cons_succ])))
                  (first | (refine x_load _ (by rfl) rfl rfl (by assumption) (by kernel_rfl) ?_; simp only [Act.put, List.setIfInBounds_toArray, List.set_cons_zero, List.set_cons_succ]) | (refine x_val (v := ?_) (by rfl) (fun w' hx => ?_) ?_; rotate_left; (focus (go_simp; (try with_reducible rfl))); (try simp only [Act.put, List.setIfInBounds_toArray, List.set_cons_zero, List.set_cons_succ])))
                  (first | (refine x_load _ (by rfl) rfl rfl (by assumption) (by kernel_rfl) ?_; simp only [Act.put, List.setIfInBounds_toArray, List.set_cons_zero, List.set_cons_succ]) | (refine x_val (v := ?_) (by rfl) (fun w' hx => ?_) ?_; rotate_left; (focus (go_simp; (try with_reducible rfl))); (try simp only [Act.put, List.setIfInBounds_toArray, List.set_cons_zero, List.set_cons_succ])))
                  refine x_loads _ [.int .i64 xj.id, .bool xj.up, .bool xj.bk, .bool xj.bd, .int .i64 xj.room, .int .i64 xj.und, .int .i64 xj.mean] (by rfl) rfl rfl (LJ.out _ G1.out) (Nat.succ_pos _) (by kernel_rfl) (by kernel_rfl) ?_; simp only [Act.put, List.setIfInBounds_toArray, List.set_cons_zero, List.set_cons_succ]
                  (first | (refine x_load _ (by rfl) rfl rfl (by assumption) (by kernel_rfl) ?_; simp only [Act.put, List.setIfInBounds_toArray, List.set_cons_zero, List.set_cons_succ]) | (refine x_val (v := ?_) (by rfl) (fun w' hx => ?_) ?_; rotate_left; (focus (go_simp; (try with_reducible rfl))); (try simp only [Act.put, List.setIfInBounds_toArray, List.set_cons_zero, List.set_cons_succ])))
                  (first | (refine x_load _ (by rfl) rfl rfl (by assumption) (by kernel_rfl) ?_; simp only [Act.put, List.setIfInBounds_toArray, List.set_cons_zero, List.set_cons_succ]) | (refine x_val (v := ?_) (by rfl) (fun w' hx => ?_) ?_; rotate_left; (focus (go_simp; (try with_reducible rfl))); (try simp only [Act.put, List.setIfInBounds_toArray, List.set_cons_zero, List.set_cons_succ])))
                  refine x_call (by rfl) (fun w' hx => by go_simp) (fun w' hx => HC2.out w') ?_; simp only [Act.put, List.setIfInBounds_toArray, List.set_cons_zero, List.set_cons_succ]
                  (first | (refine x_load _ (by rfl) rfl rfl (by assumption) (by kernel_rfl) ?_; simp only [Act.put, List.setIfInBounds_toArray, List.set_cons_zero, List.set_cons_succ]) | (refine x_val (v := ?_) (by rfl) (fun w' hx => ?_) ?_; rotate_left; (focus (go_simp; (try with_reducible rfl))); (try simp only [Act.put, List.setIfInBounds_toArray, List.set_cons_zero, List.set_cons_succ])))
                  refine x_nil (hQ.out _ ?_); clear hQ QQ
                  intro w6 hbw
                  have G2 := Lib.hid (G1.out.same (hbw.block rb1 G1.out.lt))
                  have T2 := Lib.hid (T1.out.grow hbw (Nat.le_of_lt G1.out.lt))
                  clear hbw HC2 G1 T1 LI LJ JL IL HJ HXX HJQ HLT g0 g00 g1 g2 g3 e1 e2
                  have O6 := Lib.hid (show w6.ownsRow w.heap.size 41 7 (.slice (some ⟨rb1, 0, none⟩) n1 cc) dj.toList.length (pths dj.toList) by
                    have hl : n1 = dj.toList.length := by rw [Array.length_toList, HSJ.out]; exact HN1.out
                    rw [hl]
                    exact G2.out.own HBB.out HCM.out)
                  have B6 := Lib.hid (B5.out.trans (T2.out.1.mono HBB.out))
                  have P6 := Lib.hid (show dj.toList.Perm ((l.take (k + 1)).filter (fitP n)) from (perm_of HPJ.out HS1.out.symm).trans PP.out)
                  have S6 := Lib.hid (show SortedIn (ltP pol last) 0 dj.size dj by rw [HSJ.out]; exact X4.out)
                  clear G2 T2 X4 HPJ HSJ
                  go_wp2_with fail
                  go_roundw
                  case rel => exact ⟨k + 1, dj, by omega, by go_num, O6, B6, P6, S6⟩
                  case measure => simp [intOf]; omega
                · rw [hz] at HC2
                  have HLT := Lib.hid (show ltP pol last dj[j]! dj[q]! = true by rw [← HXX.out.1, ← HXX.out.2]; exact hz)
                  clear hz
                  go_wp2_with fail
                  refine wp_ext (by kernel_rfl) (by kernel_rfl) (fun QQ hQ => ?_)
                  (first | (refine x_load _ (by rfl) rfl rfl (by assumption) (by kernel_rfl) ?_; simp only [Act.put, List.setIfInBounds_toArray, List.set_cons_zero, List.set_cons_succ]) | (refine x_val (v := ?_) (by rfl) (fun w' hx => ?_) ?_; rotate_left; (focus (go_simp; (try with_reducible rfl))); (try simp only [Act.put, List.setIfInBounds_toArray, List.set_cons_zero, List.set_cons_succ])))
                  (first | (refine x_load _ (by rfl) rfl rfl (by assumption) (by kernel_rfl) ?_; simp only [Act.put, List.setIfInBounds_toArray, List.set_cons_zero, List.set_cons_succ]) | (refine x_val (v := ?_) (by rfl) (fun w' hx => ?_) ?_; rotate_left; (focus (go_simp; (try with_reducible rfl))); (try simp only [Act.put, List.setIfInBounds_toArray, List.set_cons_zero, List.set_cons_succ])))
                  (first | (refine x_load _ (by rfl) rfl rfl (by assumption) (by kernel_rfl) ?_; simp only [Act.put, List.setIfInBounds_toArray, List.set_cons_zero, List.set_cons_succ]) | (refine x_val (v := ?_) (by rfl) (fun w' hx => ?_) ?_; rotate_left; (focus (go_simp; (try with_reducible rfl))); (try simp only [Act.put, List.setIfInBounds_toArray, List.set_cons_zero, List.set_cons_succ])))
                  (first | (refine x_load _ (by rfl) rfl rfl (by assumption) (by kernel_rfl) ?_; simp only [Act.put, List.setIfInBounds_toArray, List.set_cons_zero, List.set_cons_succ]) | (refine x_val (v := ?_) (by rfl) (fun w' hx => ?_) ?_; rotate_left; (focus (go_simp; (try with_reducible rfl))); (try simp only [Act.put, List.setIfInBounds_toArray, List.set_cons_zero, List.set_cons_succ])))
                  (first | (refine x_load _ (by rfl) rfl rfl (by assumption) (by kernel_rfl) ?_; simp only [Act.put, List.setIfInBounds_toArray, List.set_cons_zero, List.set_cons_succ]) | (refine x_val (v := ?_) (by rfl) (fun w' hx => ?_) ?_; rotate_left; (focus (go_simp; (try with_reducible rfl))); (try simp only [Act.put, List.setIfInBounds_toArray, List.set_cons_zero, List.set_cons_succ])))
                  (first | (refine x_load _ (by rfl) rfl rfl (by assumption) (by kernel_rfl) ?_; simp only [Act.put, List.setIfInBounds_toArray, List.set_cons_zero, List.set_cons_succ]) | (refine x_val (v := ?_) (by rfl) (fun w' hx => ?_) ?_; rotate_left; (focus (go_simp; (try with_reducible rfl))); (try simp only [Act.put, List.setIfInBounds_toArray, List.set_cons_zero, List.set_cons_succ])))
                  refine x_loads _ [.int .i64 xi.id, .bool xi.up, .bool xi.bk, .bool xi.bd, .int .i64 xi.room, .int .i64 xi.und, .int .i64 xi.mean] (by rfl) rfl rfl (LI.out _ G1.out) (Nat.succ_pos _) (by kernel_rfl) (by kernel_rfl) ?_; simp only [Act.put, List.setIfInBounds_toArray, List.set_cons_zero, List.set_cons_succ]
                  (first | (refine x_load _ (by rfl) rfl rfl (by assumption) (by kernel_rfl) ?_; simp only [Act.put, List.setIfInBounds_toArray, List.set_cons_zero, List.set_cons_succ]) | (refine x_val (v := ?_) (by rfl) (fun w' hx => ?_) ?_; rotate_left; (focus (go_simp; (try with_reducible rfl))); (try simp only [Act.put, List.setIfInBounds_toArray, List.set_cons_zero, List.set_cons_succ])))
                  (first | (refine x_load _ (by rfl) rfl rfl (by assumption) (by kernel_rfl) ?_; simp only [Act.put, List.setIfInBounds_toArray, List.set_cons_zero, List.set_cons_succ]) | (refine x_val (v := ?_) (by rfl) (fun w' hx => ?_) ?_; rotate_left; (focus (go_simp; (try with_reducible rfl))); (try simp only [Act.put, List.setIfInBounds_toArray, List.set_cons_zero, List.set_cons_succ])))
                  (first | (refine x_load _ (by rfl) rfl rfl (by assumption) (by kernel_rfl) ?_; simp only [Act.put, List.setIfInBounds_toArray, List.set_cons_zero, List.set_cons_succ]) | (refine x_val (v := ?_) (by rfl) (fun w' hx => ?_) ?_; rotate_left; (focus (go_simp; (try with_reducible rfl))); (try simp only [Act.put, List.setIfInBounds_toArray, List.set_cons_zero, List.set_cons_succ])))
                  (first | (refine x_load _ (by rfl) rfl rfl (by assumption) (by kernel_rfl) ?_; simp only [Act.put, List.setIfInBounds_toArray, List.set_cons_zero, List.set_cons_succ]) | (refine x_val (v := ?_) (by rfl) (fun w' hx => ?_) ?_; rotate_left; (focus (go_simp; (try with_reducible rfl))); (try simp only [Act.put, List.setIfInBounds_toArray, List.set_cons_zero, List.set_cons_succ])))
                  refine x_loads _ [.int .i64 xj.id, .bool xj.up, .bool xj.bk, .bool xj.bd, .int .i64 xj.room, .int .i64 xj.und, .int .i64 xj.mean] (by rfl) rfl rfl (LJ.out _ G1.out) (Nat.succ_pos _) (by kernel_rfl) (by kernel_rfl) ?_; simp only [Act.put, List.setIfInBounds_toArray, List.set_cons_zero, List.set_cons_succ]
                  (first | (refine x_load _ (by rfl) rfl rfl (by assumption) (by kernel_rfl) ?_; simp only [Act.put, List.setIfInBounds_toArray, List.set_cons_zero, List.set_cons_succ]) | (refine x_val (v := ?_) (by rfl) (fun w' hx => ?_) ?_; rotate_left; (focus (go_simp; (try with_reducible rfl))); (try simp only [Act.put, List.setIfInBounds_toArray, List.set_cons_zero, List.set_cons_succ])))
                  (first | (refine x_load _ (by rfl) rfl rfl (by assumption) (by kernel_rfl) ?_; simp only [Act.put, List.setIfInBounds_toArray, List.set_cons_zero, List.set_cons_succ]) | (refine x_val (v := ?_) (by rfl) (fun w' hx => ?_) ?_; rotate_left; (focus (go_simp; (try with_reducible rfl))); (try simp only [Act.put, List.setIfInBounds_toArray, List.set_cons_zero, List.set_cons_succ])))
                  refine x_call (by rfl) (fun w' hx => by go_simp) (fun w' hx => HC2.out w') ?_; simp only [Act.put, List.setIfInBounds_toArray, List.set_cons_zero, List.set_cons_succ]
                  (first | (refine x_load _ (by rfl) rfl rfl (by assumption) (by kernel_rfl) ?_; simp only [Act.put, List.setIfInBounds_toArray, List.set_cons_zero, List.set_cons_succ]) | (refine x_val (v := ?_) (by rfl) (fun w' hx => ?_) ?_; rotate_left; (focus (go_simp; (try with_reducible rfl))); (try simp only [Act.put, List.setIfInBounds_toArray, List.set_cons_zero, List.set_cons_succ])))
                  refine x_nil (hQ.out _ ?_); clear hQ QQ
                  intro w6 hbw
                  have G2 := Lib.hid (G1.out.same (hbw.block rb1 G1.out.lt))
                  have T2 := Lib.hid (T1.out.grow hbw (Nat.le_of_lt G1.out.lt))
                  have JL2 := Lib.hid (show q < (dj.setIfInBounds j xj).size by rw [Array.size_setIfInBounds]; exact JL.out)
                  clear hbw HC2 G1 T1
                  go_upto_region 10 with fail
                  refine wp_ord [(0, .pure), (1, .pure), (2, .pure), (3, .pure), (4, .pure), (5, .pure), (6, .pure), (7, .pure), (8, .pure), (9, .read), (10, .pure), (11, .pure), (12, .pure), (13, .read), (14, .pure), (15, .sole), (16, .pure), (17, .sole)] [15, 17] (by kernel_rfl) (by kernel_rfl) (fun QQ hQ wd hwd => ?_); simp only [List.map_cons, List.map_nil, List.getD_cons_zero, List.getD_cons_succ]
                  have hD : Below w6.heap.size w6 wd := by rw [hwd.out]; exact (Below.refl _ _).drew
                  have GD := Lib.hid (G2.out.same (hD.block rb1 G2.out.lt))
                  have TD := Lib.hid (T2.out.grow hD (Nat.le_of_lt G2.out.lt))
                  clear hD hwd
                  (refine o_pure (v := ?_) (by rfl) (fun w' => ?_) ?_; rotate_left; (focus (go_simp; (try with_reducible rfl); (try (rw [if_pos (by omega)]; (try with_reducible rfl))))); (try simp only [Act.put, List.setIfInBounds_toArray, List.set_cons_zero, List.set_cons_succ]))
                  (refine o_pure (v := ?_) (by rfl) (fun w' => ?_) ?_; rotate_left; (focus (go_simp; (try with_reducible rfl); (try (rw [if_pos (by omega)]; (try with_reducible rfl))))); (try simp only [Act.put, List.setIfInBounds_toArray, List.set_cons_zero, List.set_cons_succ]))
                  (refine o_pure (v := ?_) (by rfl) (fun w' => ?_) ?_; rotate_left; (focus (go_simp; (try with_reducible rfl); (try (rw [if_pos (by omega)]; (try with_reducible rfl))))); (try simp only [Act.put, List.setIfInBounds_toArray, List.set_cons_zero, List.set_cons_succ]))
                  (refine o_pure (v := ?_) (by rfl) (fun w' => ?_) ?_; rotate_left; (focus (go_simp; (try with_reducible rfl); (try (rw [if_pos (by omega)]; (try with_reducible rfl))))); (try simp only [Act.put, List.setIfInBounds_toArray, List.set_cons_zero, List.set_cons_succ]))
                  (refine o_pure (v := ?_) (by rfl) (fun w' => ?_) ?_; rotate_left; (focus (go_simp; (try with_reducible rfl); (try (rw [if_pos (by omega)]; (try with_reducible rfl))))); (try simp only [Act.put, List.setIfInBounds_toArray, List.set_cons_zero, List.set_cons_succ]))
                  (refine o_pure (v := ?_) (by rfl) (fun w' => ?_) ?_; rotate_left; (focus (go_simp; (try with_reducible rfl); (try (rw [if_pos (by omega)]; (try with_reducible rfl))))); (try simp only [Act.put, List.setIfInBounds_toArray, List.set_cons_zero, List.set_cons_succ]))
                  (refine o_pure (v := ?_) (by rfl) (fun w' => ?_) ?_; rotate_left; (focus (go_simp; (try with_reducible rfl); (try (rw [if_pos (by omega)]; (try with_reducible rfl))))); (try simp only [Act.put, List.setIfInBounds_toArray, List.set_cons_zero, List.set_cons_succ]))
                  (refine o_pure (v := ?_) (by rfl) (fun w' => ?_) ?_; rotate_left; (focus (go_simp; (try with_reducible rfl); (try (rw [if_pos (by omega)]; (try with_reducible rfl))))); (try simp only [Act.put, List.setIfInBounds_toArray, List.set_cons_zero, List.set_cons_succ]))
                  (refine o_pure (v := ?_) (by rfl) (fun w' => ?_) ?_; rotate_left; (focus (go_simp; (try with_reducible rfl); (try (rw [if_pos (by omega)]; (try with_reducible rfl))))); (try simp only [Act.put, List.setIfInBounds_toArray, List.set_cons_zero, List.set_cons_succ]))
                  (refine o_loads _ [.int .i64 xj.id, .bool xj.up, .bool xj.bk, .bool xj.bd, .int .i64 xj.room, .int .i64 xj.und, .int .i64 xj.mean] (by rfl) rfl rfl (LJ.out _ GD.out) (Nat.succ_pos _) (by kernel_rfl) (by kernel_rfl) ?_; simp only [Act.put, List.setIfInBounds_toArray, List.set_cons_zero, List.set_cons_succ])
                  (refine o_pure (v := ?_) (by rfl) (fun w' => ?_) ?_; rotate_left; (focus (go_simp; (try with_reducible rfl); (try (rw [if_pos (by omega)]; (try with_reducible rfl))))); (try simp only [Act.put, List.setIfInBounds_toArray, List.set_cons_zero, List.set_cons_succ]))
                  (refine o_pure (v := ?_) (by rfl) (fun w' => ?_) ?_; rotate_left; (focus (go_simp; (try with_reducible rfl); (try (rw [if_pos (by omega)]; (try with_reducible rfl))))); (try simp only [Act.put, List.setIfInBounds_toArray, List.set_cons_zero, List.set_cons_succ]))
                  (refine o_pure (v := ?_) (by rfl) (fun w' => ?_) ?_; rotate_left; (focus (go_simp; (try with_reducible rfl); (try (rw [if_pos (by omega)]; (try with_reducible rfl))))); (try simp only [Act.put, List.setIfInBounds_toArray, List.set_cons_zero, List.set_cons_succ]))
                  (refine o_loads _ [.int .i64 xi.id, .bool xi.up, .bool xi.bk, .bool xi.bd, .int .i64 xi.room, .int .i64 xi.und, .int .i64 xi.mean] (by rfl) rfl rfl (LI.out _ GD.out) (Nat.succ_pos _) (by kernel_rfl) (by kernel_rfl) ?_; simp only [Act.put, List.setIfInBounds_toArray, List.set_cons_zero, List.set_cons_succ])
                  (refine o_pure (v := ?_) (by rfl) (fun w' => ?_) ?_; rotate_left; (focus (go_simp; (try with_reducible rfl); (try (rw [if_pos (by omega)]; (try with_reducible rfl))))); (try simp only [Act.put, List.setIfInBounds_toArray, List.set_cons_zero, List.set_cons_succ]))
                  refine o_sole (fun K hK => ?_)
                  refine rg_store GD.out IL.out xj rfl _ _ rfl rfl rfl (by kernel_rfl) fun w7 h7 s7 => ?_
                  refine wpList_nil ?_
                  refine hK _ _ (fun h => by cases h) ?_; clear hK K
                  have G3 := Lib.hid h7
                  have T3 := Lib.hid (TD.out.solo s7)
                  clear h7 s7 GD TD
                  (refine o_pure (v := ?_) (by rfl) (fun w' => ?_) ?_; rotate_left; (focus (go_simp; (try with_reducible rfl); (try (rw [if_pos (by omega)]; (try with_reducible rfl))))); (try simp only [Act.put, List.setIfInBounds_toArray, List.set_cons_zero, List.set_cons_succ]))
                  refine o_sole (fun K hK => ?_)
                  refine rg_store G3.out JL2.out xi rfl _ _ rfl rfl rfl (by kernel_rfl) fun w8 h8 s8 => ?_
                  refine wpList_nil ?_
                  refine hK _ _ (fun h => by cases h) ?_; clear hK K
                  have G4 := Lib.hid h8
                  have T4 := Lib.hid (T3.out.solo s8)
                  clear h8 s8 G3 T3
                  refine o_nil (hQ.out _ _ ?_); clear hQ QQ
                  have ESW : (dj.setIfInBounds j xj).setIfInBounds q xi = swp dj j q := by rw [HXX.out.1, HXX.out.2]; rfl
                  have X4 := Lib.hid (show InsS (ltP pol last) 0 N q ((dj.setIfInBounds j xj).setIfInBounds q xi) by
                    rw [ESW]
                    have h1 := HJ.out
                    have h2 := HLT.out
                    rw [HJQ.out] at h1 h2 ⊢
                    exact InsS.step HSO.out h1 (Nat.zero_le _) (by have := HJQ.out; omega) (by rw [HSJ.out]; omega) h2)
                  have P4 := Lib.hid (show PermIn 0 (N + 1) d1 ((dj.setIfInBounds j xj).setIfInBounds q xi) by
                    rw [ESW]
                    exact permIn_trans _ _ _ _ _ HPJ.out (swp_permIn dj 0 (N + 1) j q (by omega) (by omega) (by omega) (by omega) (by rw [HSJ.out]; exact Nat.le_refl _)))
                  have Z4 := Sh.mk (show ((dj.setIfInBounds j xj).setIfInBounds q xi).size = N + 1 by rw [Array.size_setIfInBounds, Array.size_setIfInBounds]; exact HSJ.out)
                  have hj4 : q ≤ N := by omega
                  clear ESW
                  generalize (dj.setIfInBounds j xj).setIfInBounds q xi = d4 at *
                  clear LI LJ JL2 JL IL HJ HPJ HSJ HXX HJQ HLT G2 T2 g0 g00 g1 g2 g3
                  go_wp2_with fail
                  go_roundw
                  case rel => exact ⟨q, d4, rfl, hj4, G4, T4, Z4, X4, P4⟩
                  case measure => simp [intOf]; omega
              · have hj0' : ¬ (0 : Int) < (j : Int) := by omega
                have hj0d : decide ((0 : Int) < (j : Int)) = false := decide_eq_false hj0'
                have hj0e : decide (0 < j) = false := decide_eq_false hj0
                have hje : j = 0 := by omega
                have X4 := Lib.hid (show SortedIn (ltP pol last) 0 (N + 1) dj from by have h1 := HJ.out; rw [hje] at h1; exact InsS.low h1)
                clear HJ hje
                go_wp2_with fail
                refine wp_ext (by kernel_rfl) (by kernel_rfl) (fun QQ hQ => ?_)
                (first | (refine x_load _ (by rfl) rfl rfl (by assumption) (by kernel_rfl) ?_; simp only [Act.put, List.setIfInBounds_toArray, List.set_cons_zero, List.set_cons_succ]) | (refine x_val (v := ?_) (by rfl) (fun w' hx => ?_) ?_; rotate_left; (focus (go_simp; (try with_reducible rfl))); (try simp only [Act.put, List.setIfInBounds_toArray, List.set_cons_zero, List.set_cons_succ])))
                (first | (refine x_load _ (by rfl) rfl rfl (by assumption) (by kernel_rfl) ?_; simp only [Act.put, List.setIfInBounds_toArray, List.set_cons_zero, List.set_cons_succ]) | (refine x_val (v := ?_) (by rfl) (fun w' hx => ?_) ?_; rotate_left; (focus (go_simp; (try with_reducible rfl))); (try simp only [Act.put, List.setIfInBounds_toArray, List.set_cons_zero, List.set_cons_succ])))
                (first | (refine x_load _ (by rfl) rfl rfl (by assumption) (by kernel_rfl) ?_; simp only [Act.put, List.setIfInBounds_toArray, List.set_cons_zero, List.set_cons_succ]) | (refine x_val (v := ?_) (by rfl) (fun w' hx => ?_) ?_; rotate_left; (focus (go_simp; (try with_reducible rfl))); (try simp only [Act.put, List.setIfInBounds_toArray, List.set_cons_zero, List.set_cons_succ])))
                (refine x_skip (by rfl) ?_; simp only [Act.put, List.setIfInBounds_toArray, List.set_cons_zero, List.set_cons_succ])
                (refine x_skip (by rfl) ?_; simp only [Act.put, List.setIfInBounds_toArray, List.set_cons_zero, List.set_cons_succ])
                (refine x_skip (by rfl) ?_; simp only [Act.put, List.setIfInBounds_toArray, List.set_cons_zero, List.set_cons_succ])
                (refine x_skip (by rfl) ?_; simp only [Act.put, List.setIfInBounds_toArray, List.set_cons_zero, List.set_cons_succ])
                (refine x_skip (by rfl) ?_; simp only [Act.put, List.setIfInBounds_toArray, List.set_cons_zero, List.set_cons_succ])
                (refine x_skip (by rfl) ?_; simp only [Act.put, List.setIfInBounds_toArray, List.set_cons_zero, List.set_cons_succ])
                (refine x_skip (by rfl) ?_; simp only [Act.put, List.setIfInBounds_toArray, List.set_cons_zero, List.set_cons_succ])
                (refine x_skip (by rfl) ?_; simp only [Act.put, List.setIfInBounds_toArray, List.set_cons_zero, List.set_cons_succ])
                (refine x_skip (by rfl) ?_; simp only [Act.put, List.setIfInBounds_toArray, List.set_cons_zero, List.set_cons_succ])
                (refine x_skip (by rfl) ?_; simp only [Act.put, List.setIfInBounds_toArray, List.set_cons_zero, List.set_cons_succ])
                (refine x_skip (by rfl) ?_; simp only [Act.put, List.setIfInBounds_toArray, List.set_cons_zero, List.set_cons_succ])
                (refine x_skip (by rfl) ?_; simp only [Act.put, List.setIfInBounds_toArray, List.set_cons_zero, List.set_cons_succ])
                (first | (refine x_load _ (by rfl) rfl rfl (by assumption) (by kernel_rfl) ?_; simp only [Act.put, List.setIfInBounds_toArray, List.set_cons_zero, List.set_cons_succ]) | (refine x_val (v := ?_) (by rfl) (fun w' hx => ?_) ?_; rotate_left; (focus (go_simp; (try with_reducible rfl))); (try simp only [Act.put, List.setIfInBounds_toArray, List.set_cons_zero, List.set_cons_succ])))
                refine x_nil (hQ.out _ ?_); clear hQ QQ
                intro w6 hbw
                have G2 := Lib.hid (G1.out.same (hbw.block rb1 G1.out.lt))
                have T2 := Lib.hid (T1.out.grow hbw (Nat.le_of_lt G1.out.lt))
                clear hbw G1 T1
                have O6 := Lib.hid (show w6.ownsRow w.heap.size 41 7 (.slice (some ⟨rb1, 0, none⟩) n1 cc) dj.toList.length (pths dj.toList) by
                  have hl : n1 = dj.toList.length := by rw [Array.length_toList, HSJ.out]; exact HN1.out
                  rw [hl]
                  exact G2.out.own HBB.out HCM.out)
                have B6 := Lib.hid (B5.out.trans (T2.out.1.mono HBB.out))
                have P6 := Lib.hid (show dj.toList.Perm ((l.take (k + 1)).filter (fitP n)) from (perm_of HPJ.out HS1.out.symm).trans PP.out)
                have S6 := Lib.hid (show SortedIn (ltP pol last) 0 dj.size dj by rw [HSJ.out]; exact X4.out)
                clear G2 T2 X4 HPJ HSJ
                go_wp2_with fail
                go_roundw
                case rel => exact ⟨k + 1, dj, by omega, by go_num, O6, B6, P6, S6⟩
                case measure => simp [intOf]; omega
          · have HF := Sh.mk (show fitP n x = false by unfold fitP; rw [hu, hrd, decide_eq_false h0]; rfl)
            have h0' : (x.und != 0) = true := by simp [h0]
            clear hu h0 hrd
            have P2 := Lib.hid (show d.toList.Perm ((l.take (k + 1)).filter (fitP n)) by rw [fitl_no HX.out HF.out]; exact HP.out)
            clear HP HF
            go_wp2_with fail
            go_roundw
            case rel => exact ⟨k + 1, d, by omega, by go_num, HO, BB, P2, HS⟩
            case measure => simp [intOf]; omega
        · have hrd : decide (n ≤ x.room) = true := decide_eq_true (by omega)
          have HF := Sh.mk (show fitP n x = true by unfold fitP; rw [hu, hrd]; rfl)
          have CEX := Sh.mk (show (#[.int .i64 x.id, .bool true, .bool x.bk, .bool x.bd, .int .i64 x.room, .int .i64 x.und, .int .i64 x.mean] : Array Value).toList = x.cells.toList by simp [Pth.cells, hu])
          have CONE := Sh.mk (show ∀ u ∈ (#[.int .i64 x.id, .bool true, .bool x.bk, .bool x.bd, .int .i64 x.room, .int .i64 x.und, .int .i64 x.mean] : Array Value).toList, u.oneCell' = true from fun u hu => pth_one x u (CEX.out ▸ hu))
          clear hu hrd
          have hroom : (d.toList.length + 1) * 40 ≤ room := room_ge (by omega)
          have hbw : w.heap.size ≤ wr.heap.size := BB.out.size
          go_wp2_with (at_builtin; go_must (refine appZ rpEl #[.int .i64 x.id, .bool true, .bool x.bk, .bool x.bd, .int .i64 x.room, .int .i64 x.und, .int .i64 x.mean] rfl CONE.out rfl _ _ rfl rfl HO.out rfl rfl hroom hbw ?_))
          intro v5 w5 ho5 hg5 hb5
          have B5 := Lib.hid (BB.out.trans hb5)
          have hd1 : pths d.toList ++ (#[.int .i64 x.id, .bool true, .bool x.bk, .bool x.bd, .int .i64 x.room, .int .i64 x.und, .int .i64 x.mean] : Array Value).toList = pths (d.push x).toList := by rw [Array.toList_push, pths_snoc, CEX.out]
          rw [hd1] at ho5
          obtain ⟨N, hN⟩ : ∃ N, N = d.size := ⟨_, rfl⟩
          obtain ⟨d1, hd⟩ : ∃ d1, d1 = d.push x := ⟨_, rfl⟩
          rw [← hd] at ho5
          have hs1 : d1.size = N + 1 := by rw [hd, hN]; simp
          obtain ⟨rb1, cc, rfl, hB, hnc, hcm, _, hrow⟩ := RowG.of_own ho5 (by simp only [Array.length_toList]; omega) (by omega)
          have hlen : d.size + 1 = N + 1 := by omega
          rw [hlen] at hnc ⊢
          have HCM := Lib.hid hcm
          have HBB := Lib.hid hB
          have HRW := Lib.hid hrow
          have HI := Lib.hid (InsS.start (show SortedIn (ltP pol last) 0 N d1 by rw [hd]; exact push_sorted (by rw [hN]; exact HS.out) hN))
          have PP := Lib.hid (show d1.toList.Perm ((l.take (k + 1)).filter (fitP n)) by rw [fitl_yes HX.out HF.out, hd, Array.toList_push]; exact HP.out.append_right _)
          have HS1 := Sh.mk hs1
          have hN100 : N ≤ 100 := by rw [hN]; simpa using hdl
          obtain ⟨n1, hn1⟩ : ∃ n1, n1 = N + 1 := ⟨_, rfl⟩
          rw [← hn1] at hnc ⊢
          have eN : (n1 : Int) - 1 = (N : Int) := by omega
          have eNw : IntKind.i64.wrap (N : Int) = (N : Int) := by rw [IntKind.wrap_i64]; omega
          have HN1 := Sh.mk hn1
          have hn1b : N < n1 := by omega
          clear ho5 hg5 hb5 hd1 hN hd hs1 hB hcm hrow hlen HF HP HS HO BB hroom hbw hdl hn1 a0 a1 a2 a3 a4 a5 a6
          go_wp2_with fail
          go_loopw [11] (fun jv wr => ∃ (j : Nat) (dj : Array Pth), jv = .int .i64 (j : Nat) ∧ j ≤ N ∧ Hid (RowG wr rb1 cc 7 41 Pth.el dj.toList) ∧ Hid (Tou rb1 w5 wr) ∧ Sh (dj.size = N + 1) ∧ Hid (InsS (ltP pol last) 0 N j dj) ∧ Hid (PermIn 0 (N + 1) d1 dj)) (fun jv _ => (intOf jv).toNat)
          case atStart => exact ⟨N, d1, rfl, Nat.le_refl _, HRW, Lib.hid (Tou.refl _ _), HS1, HI, Lib.hid (permIn_refl _ _ _)⟩
          case round =>
            clear HRW HI
            obtain ⟨j, dj, rfl, hj, G1, T1, HSJ, HJ, HPJ⟩ := hrel
            by_cases hj0 : 0 < j
            · obtain ⟨q, hq⟩ : ∃ q, q = j - 1 := ⟨_, rfl⟩
              have hjq : j = q + 1 := by omega
              have HJQ := Sh.mk hjq
              have e1 : (j : Int) - 1 = (q : Int) := by omega
              have e2 : IntKind.i64.wrap (q : Int) = (q : Int) := by rw [IntKind.wrap_i64]; omega
              have g0 : (0 : Int) ≤ (j : Int) := by omega
              have g00 : (0 : Int) < (j : Int) := by omega
              have g1 : (0 : Int) ≤ (q : Int) := by omega
              have g2 : (j : Int) < (n1 : Int) := by omega
              have g3 : (q : Int) < (n1 : Int) := by omega
              have hqj : q < j := by omega
              clear hq hjq
              have IL := Lib.hid (show j < dj.size by rw [HSJ.out]; omega)
              have JL := Lib.hid (show q < dj.size by rw [HSJ.out]; omega)
              obtain ⟨xi, hxi⟩ : ∃ x, x = dj[j]! := ⟨_, rfl⟩
              obtain ⟨xj, hxj⟩ : ∃ x, x = dj[q]! := ⟨_, rfl⟩
              have HXX := Lib.hid (show xi = dj[j]! ∧ xj = dj[q]! from ⟨hxi, hxj⟩)
              have LI := Lib.hid (show ∀ w2, RowG w2 rb1 cc 7 41 Pth.el dj.toList → ∀ r v, xi.el[r]? = some v → w2.cell? ⟨rb1, j * 7 + r, none⟩ = some v from fun w2 h2 => by rw [hxi]; exact rg_nth h2 IL.out)
              have LJ := Lib.hid (show ∀ w2, RowG w2 rb1 cc 7 41 Pth.el dj.toList → ∀ r v, xj.el[r]? = some v → w2.cell? ⟨rb1, q * 7 + r, none⟩ = some v from fun w2 h2 => by rw [hxj]; exact rg_nth h2 JL.out)
              clear hxi hxj
              have HC2 := Lib.hid (ahead_any pol last xi xj)
              cases hz : ltP pol last xi xj
              · rw [hz] at HC2
                have HLT := Lib.hid (show ltP pol last dj[j]! dj[q]! = false by rw [← HXX.out.1, ← HXX.out.2]; exact hz)
                have X4 := Lib.hid (show SortedIn (ltP pol last) 0 (N + 1) dj by
                  have h1 := HJ.out
                  have h2 := HLT.out
                  rw [HJQ.out] at h1 h2
                  exact InsS.stop HSO.out h1 (Nat.zero_le _) (by have := HJQ.out; omega) h2)
                clear hz
                go_wp2_with fail
                refine wp_ext (by kernel_rfl) (by kernel_rfl) (fun QQ hQ => ?_)
                (first | (refine x_load _ (by rfl) rfl rfl (by assumption) (by kernel_rfl) ?_; simp only [Act.put, List.setIfInBounds_toArray, List.set_cons_zero, List.set_cons_succ]) | (refine x_val (v := ?_) (by rfl) (fun w' hx => ?_) ?_; rotate_left; (focus (go_simp; (try with_reducible rfl))); (try simp only [Act.put, List.setIfInBounds_toArray, List.set_cons_zero, List.set_cons_succ])))
                (first | (refine x_load _ (by rfl) rfl rfl (by assumption) (by kernel_rfl) ?_; simp only [Act.put, List.setIfInBounds_toArray, List.set_cons_zero, List.set_cons_succ]) | (refine x_val (v := ?_) (by rfl) (fun w' hx => ?_) ?_; rotate_left; (focus (go_simp; (try with_reducible rfl))); (try simp only [Act.put, List.setIfInBounds_toArray, List.set_cons_zero, List.set_cons_succ])))
                (first | (refine x_load _ (by rfl) rfl rfl (by assumption) (by kernel_rfl) ?_; simp only [Act.put, List.setIfInBounds_toArray, List.set_cons_zero, List.set_cons_succ]) | (refine x_val (v := ?_) (by rfl) (fun w' hx => ?_) ?_; rotate_left; (focus (go_simp; (try with_reducible rfl))); (try simp only [Act.put, List.setIfInBounds_toArray, List.set_cons_zero, List.set_cons_succ])))
                (first | (refine x_load _ (by rfl) rfl rfl (by assumption) (by kernel_rfl) ?_; simp only [Act.put, List.setIfInBounds_toArray, List.set_cons_zero, List.set_cons_succ]) | (refine x_val (v := ?_) (by rfl) (fun w' hx => ?_) ?_; rotate_left; (focus (go_simp; (try with_reducible rfl))); (try simp only [Act.put, List.setIfInBounds_toArray, List.set_cons_zero, List.set_cons_succ])))
                (first | (refine x_load _ (by rfl) rfl rfl (by assumption) (by kernel_rfl) ?_; simp only [Act.put, List.setIfInBounds_toArray, List.set_cons_zero, List.set_cons_succ]) | (refine x_val (v := ?_) (by rfl) (fun w' hx => ?_) ?_; rotate_left; (focus (go_simp; (try with_reducible rfl))); (try simp only [Act.put, List.setIfInBounds_toArray, List.set_cons_zero, List.set_cons_succ])))
                (first | (refine x_load _ (by rfl) rfl rfl (by assumption) (by kernel_rfl) ?_; simp only [Act.put, List.setIfInBounds_toArray, List.set_cons_zero, List.set_cons_succ]) | (refine x_val (v := ?_) (by rfl) (fun w' hx => ?_) ?_; rotate_left; (focus (go_simp; (try with_reducible rfl))); (try simp only [Act.put, List.setIfInBounds_toArray, List.set_cons_zero, List.set_cons_succ])))
                refine x_loads _ [.int .i64 xi.id, .bool xi.up, .bool xi.bk, .bool xi.bd, .int .i64 xi.room, .int .i64 xi.und, .int .i64 xi.mean] (by rfl) rfl rfl (LI.out _ G1.out) (Nat.succ_pos _) (by kernel_rfl) (by kernel_rfl) ?_; simp only [Act.put, List.setIfInBounds_toArray, List.set_cons_zero, List.set_cons_succ]
                (first | (refine x_load _ (by rfl) rfl rfl (by assumption) (by kernel_rfl) ?_; simp only [Act.put, List.setIfInBounds_toArray, List.set_cons_zero, List.set_cons_succ]) | (refine x_val (v := ?_) (by rfl) (fun w' hx => ?_) ?_; rotate_left; (focus (go_simp; (try with_reducible rfl))); (try simp only [Act.put, List.setIfInBounds_toArray, List.set_cons_zero, List.set_cons_succ])))
                (first | (refine x_load _ (by rfl) rfl rfl (by assumption) (by kernel_rfl) ?_; simp only [Act.put, List.setIfInBounds_toArray, List.set_cons_zero, List.set_cons_succ]) | (refine x_val (v := ?_) (by rfl) (fun w' hx => ?_) ?_; rotate_left; (focus (go_simp; (try with_reducible rfl))); (try simp only [Act.put, List.setIfInBounds_toArray, List.set_cons_zero, List.set_cons_succ])))
                (first | (refine x_load _ (by rfl) rfl rfl (by assumption) (by kernel_rfl) ?_; simp only [Act.put, List.setIfInBounds_toArray, List.set_cons_zero, List.set_cons_succ]) | (refine x_val (v := ?_) (by rfl) (fun w' hx => ?_) ?_; rotate_left; (focus (go_simp; (try with_reducible rfl))); (try simp only [Act.put, List.setIfInBounds_toArray, List.set_cons_zero, List.set_cons_succ])))
                (first | (refine x_load _ (by rfl) rfl rfl (by assumption) (by kernel_rfl) ?_; simp only [Act.put, List.setIfInBounds_toArray, List.set_cons_zero, List.set_cons_succ]) | (refine x_val (v := ?_) (by rfl) (fun w' hx => ?_) ?_; rotate_left; (focus (go_simp; (try with_reducible rfl))); (try simp only [Act.put, List.setIfInBounds_toArray, List.set_cons_zero, List.set_cons_succ])))
                refine x_loads _ [.int .i64 xj.id, .bool xj.up, .bool xj.bk, .bool xj.bd, .int .i64 xj.room, .int .i64 xj.und, .int .i64 xj.mean] (by rfl) rfl rfl (LJ.out _ G1.out) (Nat.succ_pos _) (by kernel_rfl) (by kernel_rfl) ?_; simp only [Act.put, List.setIfInBounds_toArray, List.set_cons_zero, List.set_cons_succ]
                (first | (refine x_load _ (by rfl) rfl rfl (by assumption) (by kernel_rfl) ?_; simp only [Act.put, List.setIfInBounds_toArray, List.set_cons_zero, List.set_cons_succ]) | (refine x_val (v := ?_) (by rfl) (fun w' hx => ?_) ?_; rotate_left; (focus (go_simp; (try with_reducible rfl))); (try simp only [Act.put, List.setIfInBounds_toArray, List.set_cons_zero, List.set_cons_succ])))
                (first | (refine x_load _ (by rfl) rfl rfl (by assumption) (by kernel_rfl) ?_; simp only [Act.put, List.setIfInBounds_toArray, List.set_cons_zero, List.set_cons_succ]) | (refine x_val (v := ?_) (by rfl) (fun w' hx => ?_) ?_; rotate_left; (focus (go_simp; (try with_reducible rfl))); (try simp only [Act.put, List.setIfInBounds_toArray, List.set_cons_zero, List.set_cons_succ])))
                refine x_call (by rfl) (fun w' hx => by go_simp) (fun w' hx => HC2.out w') ?_; simp only [Act.put, List.setIfInBounds_toArray, List.set_cons_zero, List.set_cons_succ]
                (first | (refine x_load _ (by rfl) rfl rfl (by assumption) (by kernel_rfl) ?_; simp only [Act.put, List.setIfInBounds_toArray, List.set_cons_zero, List.set_cons_succ]) | (refine x_val (v := ?_) (by rfl) (fun w' hx => ?_) ?_; rotate_left; (focus (go_simp; (try with_reducible rfl))); (try simp only [Act.put, List.setIfInBounds_toArray, List.set_cons_zero, List.set_cons_succ])))
                refine x_nil (hQ.out _ ?_); clear hQ QQ
                intro w6 hbw
                have G2 := Lib.hid (G1.out.same (hbw.block rb1 G1.out.lt))
                have T2 := Lib.hid (T1.out.grow hbw (Nat.le_of_lt G1.out.lt))
                clear hbw HC2 G1 T1 LI LJ JL IL HJ HXX HJQ HLT g0 g00 g1 g2 g3 e1 e2
                have O6 := Lib.hid (show w6.ownsRow w.heap.size 41 7 (.slice (some ⟨rb1, 0, none⟩) n1 cc) dj.toList.length (pths dj.toList) by
                  have hl : n1 = dj.toList.length := by rw [Array.length_toList, HSJ.out]; exact HN1.out
                  rw [hl]
                  exact G2.out.own HBB.out HCM.out)
                have B6 := Lib.hid (B5.out.trans (T2.out.1.mono HBB.out))
                have P6 := Lib.hid (show dj.toList.Perm ((l.take (k + 1)).filter (fitP n)) from (perm_of HPJ.out HS1.out.symm).trans PP.out)
                have S6 := Lib.hid (show SortedIn (ltP pol last) 0 dj.size dj by rw [HSJ.out]; exact X4.out)
                clear G2 T2 X4 HPJ HSJ
                go_wp2_with fail
                go_roundw
                case rel => exact ⟨k + 1, dj, by omega, by go_num, O6, B6, P6, S6⟩
                case measure => simp [intOf]; omega
              · rw [hz] at HC2
                have HLT := Lib.hid (show ltP pol last dj[j]! dj[q]! = true by rw [← HXX.out.1, ← HXX.out.2]; exact hz)
                clear hz
                go_wp2_with fail
                refine wp_ext (by kernel_rfl) (by kernel_rfl) (fun QQ hQ => ?_)
                (first | (refine x_load _ (by rfl) rfl rfl (by assumption) (by kernel_rfl) ?_; simp only [Act.put, List.setIfInBounds_toArray, List.set_cons_zero, List.set_cons_succ]) | (refine x_val (v := ?_) (by rfl) (fun w' hx => ?_) ?_; rotate_left; (focus (go_simp; (try with_reducible rfl))); (try simp only [Act.put, List.setIfInBounds_toArray, List.set_cons_zero, List.set_cons_succ])))
                (first | (refine x_load _ (by rfl) rfl rfl (by assumption) (by kernel_rfl) ?_; simp only [Act.put, List.setIfInBounds_toArray, List.set_cons_zero, List.set_cons_succ]) | (refine x_val (v := ?_) (by rfl) (fun w' hx => ?_) ?_; rotate_left; (focus (go_simp; (try with_reducible rfl))); (try simp only [Act.put, List.setIfInBounds_toArray, List.set_cons_zero, List.set_cons_succ])))
                (first | (refine x_load _ (by rfl) rfl rfl (by assumption) (by kernel_rfl) ?_; simp only [Act.put, List.setIfInBounds_toArray, List.set_cons_zero, List.set_cons_succ]) | (refine x_val (v := ?_) (by rfl) (fun w' hx => ?_) ?_; rotate_left; (focus (go_simp; (try with_reducible rfl))); (try simp only [Act.put, List.setIfInBounds_toArray, List.set_cons_zero, List.set_cons_succ])))
                (first | (refine x_load _ (by rfl) rfl rfl (by assumption) (by kernel_rfl) ?_; simp only [Act.put, List.setIfInBounds_toArray, List.set_cons_zero, List.set_cons_succ]) | (refine x_val (v := ?_) (by rfl) (fun w' hx => ?_) ?_; rotate_left; (focus (go_simp; (try with_reducible rfl))); (try simp only [Act.put, List.setIfInBounds_toArray, List.set_cons_zero, List.set_cons_succ])))
                (first | (refine x_load _ (by rfl) rfl rfl (by assumption) (by kernel_rfl) ?_; simp only [Act.put, List.setIfInBounds_toArray, List.set_cons_zero, List.set_cons_succ]) | (refine x_val (v := ?_) (by rfl) (fun w' hx => ?_) ?_; rotate_left; (focus (go_simp; (try with_reducible rfl))); (try simp only [Act.put, List.setIfInBounds_toArray, List.set_cons_zero, List.set_cons_succ])))
                (first | (refine x_load _ (by rfl) rfl rfl (by assumption) (by kernel_rfl) ?_; simp only [Act.put, List.setIfInBounds_toArray, List.set_cons_zero, List.set_cons_succ]) | (refine x_val (v := ?_) (by rfl) (fun w' hx => ?_) ?_; rotate_left; (focus (go_simp; (try with_reducible rfl))); (try simp only [Act.put, List.setIfInBounds_toArray, List.set_cons_zero, List.set_cons_succ])))
                refine x_loads _ [.int .i64 xi.id, .bool xi.up, .bool xi.bk, .bool xi.bd, .int .i64 xi.room, .int .i64 xi.und, .int .i64 xi.mean] (by rfl) rfl rfl (LI.out _ G1.out) (Nat.succ_pos _) (by kernel_rfl) (by kernel_rfl) ?_; simp only [Act.put, List.setIfInBounds_toArray, List.set_cons_zero, List.set_cons_succ]
                (first | (refine x_load _ (by rfl) rfl rfl (by assumption) (by kernel_rfl) ?_; simp only [Act.put, List.setIfInBounds_toArray, List.set_cons_zero, List.set_cons_succ]) | (refine x_val (v := ?_) (by rfl) (fun w' hx => ?_) ?_; rotate_left; (focus (go_simp; (try with_reducible rfl))); (try simp only [Act.put, List.setIfInBounds_toArray, List.set_cons_zero, List.set_cons_succ])))
                (first | (refine x_load _ (by rfl) rfl rfl (by assumption) (by kernel_rfl) ?_; simp only [Act.put, List.setIfInBounds_toArray, List.set_cons_zero, List.set_cons_succ]) | (refine x_val (v := ?_) (by rfl) (fun w' hx => ?_) ?_; rotate_left; (focus (go_simp; (try with_reducible rfl))); (try simp only [Act.put, List.setIfInBounds_toArray, List.set_cons_zero, List.set_cons_succ])))
                (first | (refine x_load _ (by rfl) rfl rfl (by assumption) (by kernel_rfl) ?_; simp only [Act.put, List.setIfInBounds_toArray, List.set_cons_zero, List.set_cons_succ]) | (refine x_val (v := ?_) (by rfl) (fun w' hx => ?_) ?_; rotate_left; (focus (go_simp; (try with_reducible rfl))); (try simp only [Act.put, List.setIfInBounds_toArray, List.set_cons_zero, List.set_cons_succ])))
                (first | (refine x_load _ (by rfl) rfl rfl (by assumption) (by kernel_rfl) ?_; simp only [Act.put, List.setIfInBounds_toArray, List.set_cons_zero, List.set_cons_succ]) | (refine x_val (v := ?_) (by rfl) (fun w' hx => ?_) ?_; rotate_left; (focus (go_simp; (try with_reducible rfl))); (try simp only [Act.put, List.setIfInBounds_toArray, List.set_cons_zero, List.set_cons_succ])))
                refine x_loads _ [.int .i64 xj.id, .bool xj.up, .bool xj.bk, .bool xj.bd, .int .i64 xj.room, .int .i64 xj.und, .int .i64 xj.mean] (by rfl) rfl rfl (LJ.out _ G1.out) (Nat.succ_pos _) (by kernel_rfl) (by kernel_rfl) ?_; simp only [Act.put, List.setIfInBounds_toArray, List.set_cons_zero, List.set_cons_succ]
                (first | (refine x_load _ (by rfl) rfl rfl (by assumption) (by kernel_rfl) ?_; simp only [Act.put, List.setIfInBounds_toArray, List.set_cons_zero, List.set_cons_succ]) | (refine x_val (v := ?_) (by rfl) (fun w' hx => ?_) ?_; rotate_left; (focus (go_simp; (try with_reducible rfl))); (try simp only [Act.put, List.setIfInBounds_toArray, List.set_cons_zero, List.set_cons_succ])))
                (first | (refine x_load _ (by rfl) rfl rfl (by assumption) (by kernel_rfl) ?_; simp only [Act.put, List.setIfInBounds_toArray, List.set_cons_zero, List.set_cons_succ]) | (refine x_val (v := ?_) (by rfl) (fun w' hx => ?_) ?_; rotate_left; (focus (go_simp; (try with_reducible rfl))); (try simp only [Act.put, List.setIfInBounds_toArray, List.set_cons_zero, List.set_cons_succ])))
                refine x_call (by rfl) (fun w' hx => by go_simp) (fun w' hx => HC2.out w') ?_; simp only [Act.put, List.setIfInBounds_toArray, List.set_cons_zero, List.set_cons_succ]
                (first | (refine x_load _ (by rfl) rfl rfl (by assumption) (by kernel_rfl) ?_; simp only [Act.put, List.setIfInBounds_toArray, List.set_cons_zero, List.set_cons_succ]) | (refine x_val (v := ?_) (by rfl) (fun w' hx => ?_) ?_; rotate_left; (focus (go_simp; (try with_reducible rfl))); (try simp only [Act.put, List.setIfInBounds_toArray, List.set_cons_zero, List.set_cons_succ])))
                refine x_nil (hQ.out _ ?_); clear hQ QQ
                intro w6 hbw
                have G2 := Lib.hid (G1.out.same (hbw.block rb1 G1.out.lt))
                have T2 := Lib.hid (T1.out.grow hbw (Nat.le_of_lt G1.out.lt))
                have JL2 := Lib.hid (show q < (dj.setIfInBounds j xj).size by rw [Array.size_setIfInBounds]; exact JL.out)
                clear hbw HC2 G1 T1
                go_upto_region 10 with fail
                refine wp_ord [(0, .pure), (1, .pure), (2, .pure), (3, .pure), (4, .pure), (5, .pure), (6, .pure), (7, .pure), (8, .pure), (9, .read), (10, .pure), (11, .pure), (12, .pure), (13, .read), (14, .pure), (15, .sole), (16, .pure), (17, .sole)] [15, 17] (by kernel_rfl) (by kernel_rfl) (fun QQ hQ wd hwd => ?_); simp only [List.map_cons, List.map_nil, List.getD_cons_zero, List.getD_cons_succ]
                have hD : Below w6.heap.size w6 wd := by rw [hwd.out]; exact (Below.refl _ _).drew
                have GD := Lib.hid (G2.out.same (hD.block rb1 G2.out.lt))
                have TD := Lib.hid (T2.out.grow hD (Nat.le_of_lt G2.out.lt))
                clear hD hwd
                (refine o_pure (v := ?_) (by rfl) (fun w' => ?_) ?_; rotate_left; (focus (go_simp; (try with_reducible rfl); (try (rw [if_pos (by omega)]; (try with_reducible rfl))))); (try simp only [Act.put, List.setIfInBounds_toArray, List.set_cons_zero, List.set_cons_succ]))
                (refine o_pure (v := ?_) (by rfl) (fun w' => ?_) ?_; rotate_left; (focus (go_simp; (try with_reducible rfl); (try (rw [if_pos (by omega)]; (try with_reducible rfl))))); (try simp only [Act.put, List.setIfInBounds_toArray, List.set_cons_zero, List.set_cons_succ]))
                (refine o_pure (v := ?_) (by rfl) (fun w' => ?_) ?_; rotate_left; (focus (go_simp; (try with_reducible rfl); (try (rw [if_pos (by omega)]; (try with_reducible rfl))))); (try simp only [Act.put, List.setIfInBounds_toArray, List.set_cons_zero, List.set_cons_succ]))
                (refine o_pure (v := ?_) (by rfl) (fun w' => ?_) ?_; rotate_left; (focus (go_simp; (try with_reducible rfl); (try (rw [if_pos (by omega)]; (try with_reducible rfl))))); (try simp only [Act.put, List.setIfInBounds_toArray, List.set_cons_zero, List.set_cons_succ]))
                (refine o_pure (v := ?_) (by rfl) (fun w' => ?_) ?_; rotate_left; (focus (go_simp; (try with_reducible rfl); (try (rw [if_pos (by omega)]; (try with_reducible rfl))))); (try simp only [Act.put, List.setIfInBounds_toArray, List.set_cons_zero, List.set_cons_succ]))
                (refine o_pure (v := ?_) (by rfl) (fun w' => ?_) ?_; rotate_left; (focus (go_simp; (try with_reducible rfl); (try (rw [if_pos (by omega)]; (try with_reducible rfl))))); (try simp only [Act.put, List.setIfInBounds_toArray, List.set_cons_zero, List.set_cons_succ]))
                (refine o_pure (v := ?_) (by rfl) (fun w' => ?_) ?_; rotate_left; (focus (go_simp; (try with_reducible rfl); (try (rw [if_pos (by omega)]; (try with_reducible rfl))))); (try simp only [Act.put, List.setIfInBounds_toArray, List.set_cons_zero, List.set_cons_succ]))
                (refine o_pure (v := ?_) (by rfl) (fun w' => ?_) ?_; rotate_left; (focus (go_simp; (try with_reducible rfl); (try (rw [if_pos (by omega)]; (try with_reducible rfl))))); (try simp only [Act.put, List.setIfInBounds_toArray, List.set_cons_zero, List.set_cons_succ]))
                (refine o_pure (v := ?_) (by rfl) (fun w' => ?_) ?_; rotate_left; (focus (go_simp; (try with_reducible rfl); (try (rw [if_pos (by omega)]; (try with_reducible rfl))))); (try simp only [Act.put, List.setIfInBounds_toArray, List.set_cons_zero, List.set_cons_succ]))
                (refine o_loads _ [.int .i64 xj.id, .bool xj.up, .bool xj.bk, .bool xj.bd, .int .i64 xj.room, .int .i64 xj.und, .int .i64 xj.mean] (by rfl) rfl rfl (LJ.out _ GD.out) (Nat.succ_pos _) (by kernel_rfl) (by kernel_rfl) ?_; simp only [Act.put, List.setIfInBounds_toArray, List.set_cons_zero, List.set_cons_succ])
                (refine o_pure (v := ?_) (by rfl) (fun w' => ?_) ?_; rotate_left; (focus (go_simp; (try with_reducible rfl); (try (rw [if_pos (by omega)]; (try with_reducible rfl))))); (try simp only [Act.put, List.setIfInBounds_toArray, List.set_cons_zero, List.set_cons_succ]))
                (refine o_pure (v := ?_) (by rfl) (fun w' => ?_) ?_; rotate_left; (focus (go_simp; (try with_reducible rfl); (try (rw [if_pos (by omega)]; (try with_reducible rfl))))); (try simp only [Act.put, List.setIfInBounds_toArray, List.set_cons_zero, List.set_cons_succ]))
                (refine o_pure (v := ?_) (by rfl) (fun w' => ?_) ?_; rotate_left; (focus (go_simp; (try with_reducible rfl); (try (rw [if_pos (by omega)]; (try with_reducible rfl))))); (try simp only [Act.put, List.setIfInBounds_toArray, List.set_cons_zero, List.set_cons_succ]))
                (refine o_loads _ [.int .i64 xi.id, .bool xi.up, .bool xi.bk, .bool xi.bd, .int .i64 xi.room, .int .i64 xi.und, .int .i64 xi.mean] (by rfl) rfl rfl (LI.out _ GD.out) (Nat.succ_pos _) (by kernel_rfl) (by kernel_rfl) ?_; simp only [Act.put, List.setIfInBounds_toArray, List.set_cons_zero, List.set_cons_succ])
                (refine o_pure (v := ?_) (by rfl) (fun w' => ?_) ?_; rotate_left; (focus (go_simp; (try with_reducible rfl); (try (rw [if_pos (by omega)]; (try with_reducible rfl))))); (try simp only [Act.put, List.setIfInBounds_toArray, List.set_cons_zero, List.set_cons_succ]))
                refine o_sole (fun K hK => ?_)
                refine rg_store GD.out IL.out xj rfl _ _ rfl rfl rfl (by kernel_rfl) fun w7 h7 s7 => ?_
                refine wpList_nil ?_
                refine hK _ _ (fun h => by cases h) ?_; clear hK K
                have G3 := Lib.hid h7
                have T3 := Lib.hid (TD.out.solo s7)
                clear h7 s7 GD TD
                (refine o_pure (v := ?_) (by rfl) (fun w' => ?_) ?_; rotate_left; (focus (go_simp; (try with_reducible rfl); (try (rw [if_pos (by omega)]; (try with_reducible rfl))))); (try simp only [Act.put, List.setIfInBounds_toArray, List.set_cons_zero, List.set_cons_succ]))
                refine o_sole (fun K hK => ?_)
                refine rg_store G3.out JL2.out xi rfl _ _ rfl rfl rfl (by kernel_rfl) fun w8 h8 s8 => ?_
                refine wpList_nil ?_
                refine hK _ _ (fun h => by cases h) ?_; clear hK K
                have G4 := Lib.hid h8
                have T4 := Lib.hid (T3.out.solo s8)
                clear h8 s8 G3 T3
                refine o_nil (hQ.out _ _ ?_); clear hQ QQ
                have ESW : (dj.setIfInBounds j xj).setIfInBounds q xi = swp dj j q := by rw [HXX.out.1, HXX.out.2]; rfl
                have X4 := Lib.hid (show InsS (ltP pol last) 0 N q ((dj.setIfInBounds j xj).setIfInBounds q xi) by
                  rw [ESW]
                  have h1 := HJ.out
                  have h2 := HLT.out
                  rw [HJQ.out] at h1 h2 ⊢
                  exact InsS.step HSO.out h1 (Nat.zero_le _) (by have := HJQ.out; omega) (by rw [HSJ.out]; omega) h2)
                have P4 := Lib.hid (show PermIn 0 (N + 1) d1 ((dj.setIfInBounds j xj).setIfInBounds q xi) by
                  rw [ESW]
                  exact permIn_trans _ _ _ _ _ HPJ.out (swp_permIn dj 0 (N + 1) j q (by omega) (by omega) (by omega) (by omega) (by rw [HSJ.out]; exact Nat.le_refl _)))
                have Z4 := Sh.mk (show ((dj.setIfInBounds j xj).setIfInBounds q xi).size = N + 1 by rw [Array.size_setIfInBounds, Array.size_setIfInBounds]; exact HSJ.out)
                have hj4 : q ≤ N := by omega
                clear ESW
                generalize (dj.setIfInBounds j xj).setIfInBounds q xi = d4 at *
                clear LI LJ JL2 JL IL HJ HPJ HSJ HXX HJQ HLT G2 T2 g0 g00 g1 g2 g3
                go_wp2_with fail
                go_roundw
                case rel => exact ⟨q, d4, rfl, hj4, G4, T4, Z4, X4, P4⟩
                case measure => simp [intOf]; omega
            · have hj0' : ¬ (0 : Int) < (j : Int) := by omega
              have hj0d : decide ((0 : Int) < (j : Int)) = false := decide_eq_false hj0'
              have hj0e : decide (0 < j) = false := decide_eq_false hj0
              have hje : j = 0 := by omega
              have X4 := Lib.hid (show SortedIn (ltP pol last) 0 (N + 1) dj from by have h1 := HJ.out; rw [hje] at h1; exact InsS.low h1)
              clear HJ hje
              go_wp2_with fail
              refine wp_ext (by kernel_rfl) (by kernel_rfl) (fun QQ hQ => ?_)
              (first | (refine x_load _ (by rfl) rfl rfl (by assumption) (by kernel_rfl) ?_; simp only [Act.put, List.setIfInBounds_toArray, List.set_cons_zero, List.set_cons_succ]) | (refine x_val (v := ?_) (by rfl) (fun w' hx => ?_) ?_; rotate_left; (focus (go_simp; (try with_reducible rfl))); (try simp only [Act.put, List.setIfInBounds_toArray, List.set_cons_zero, List.set_cons_succ])))
              (first | (refine x_load _ (by rfl) rfl rfl (by assumption) (by kernel_rfl) ?_; simp only [Act.put, List.setIfInBounds_toArray, List.set_cons_zero, List.set_cons_succ]) | (refine x_val (v := ?_) (by rfl) (fun w' hx => ?_) ?_; rotate_left; (focus (go_simp; (try with_reducible rfl))); (try simp only [Act.put, List.setIfInBounds_toArray, List.set_cons_zero, List.set_cons_succ])))
              (first | (refine x_load _ (by rfl) rfl rfl (by assumption) (by kernel_rfl) ?_; simp only [Act.put, List.setIfInBounds_toArray, List.set_cons_zero, List.set_cons_succ]) | (refine x_val (v := ?_) (by rfl) (fun w' hx => ?_) ?_; rotate_left; (focus (go_simp; (try with_reducible rfl))); (try simp only [Act.put, List.setIfInBounds_toArray, List.set_cons_zero, List.set_cons_succ])))
              (refine x_skip (by rfl) ?_; simp only [Act.put, List.setIfInBounds_toArray, List.set_cons_zero, List.set_cons_succ])
              (refine x_skip (by rfl) ?_; simp only [Act.put, List.setIfInBounds_toArray, List.set_cons_zero, List.set_cons_succ])
              (refine x_skip (by rfl) ?_; simp only [Act.put, List.setIfInBounds_toArray, List.set_cons_zero, List.set_cons_succ])
              (refine x_skip (by rfl) ?_; simp only [Act.put, List.setIfInBounds_toArray, List.set_cons_zero, List.set_cons_succ])
              (refine x_skip (by rfl) ?_; simp only [Act.put, List.setIfInBounds_toArray, List.set_cons_zero, List.set_cons_succ])
              (refine x_skip (by rfl) ?_; simp only [Act.put, List.setIfInBounds_toArray, List.set_cons_zero, List.set_cons_succ])
              (refine x_skip (by rfl) ?_; simp only [Act.put, List.setIfInBounds_toArray, List.set_cons_zero, List.set_cons_succ])
              (refine x_skip (by rfl) ?_; simp only [Act.put, List.setIfInBounds_toArray, List.set_cons_zero, List.set_cons_succ])
              (refine x_skip (by rfl) ?_; simp only [Act.put, List.setIfInBounds_toArray, List.set_cons_zero, List.set_cons_succ])
              (refine x_skip (by rfl) ?_; simp only [Act.put, List.setIfInBounds_toArray, List.set_cons_zero, List.set_cons_succ])
              (refine x_skip (by rfl) ?_; simp only [Act.put, List.setIfInBounds_toArray, List.set_cons_zero, List.set_cons_succ])
              (refine x_skip (by rfl) ?_; simp only [Act.put, List.setIfInBounds_toArray, List.set_cons_zero, List.set_cons_succ])
              (first | (refine x_load _ (by rfl) rfl rfl (by assumption) (by kernel_rfl) ?_; simp only [Act.put, List.setIfInBounds_toArray, List.set_cons_zero, List.set_cons_succ]) | (refine x_val (v := ?_) (by rfl) (fun w' hx => ?_) ?_; rotate_left; (focus (go_simp; (try with_reducible rfl))); (try simp only [Act.put, List.setIfInBounds_toArray, List.set_cons_zero, List.set_cons_succ])))
              refine x_nil (hQ.out _ ?_); clear hQ QQ
              intro w6 hbw
              have G2 := Lib.hid (G1.out.same (hbw.block rb1 G1.out.lt))
              have T2 := Lib.hid (T1.out.grow hbw (Nat.le_of_lt G1.out.lt))
              clear hbw G1 T1
              have O6 := Lib.hid (show w6.ownsRow w.heap.size 41 7 (.slice (some ⟨rb1, 0, none⟩) n1 cc) dj.toList.length (pths dj.toList) by
                have hl : n1 = dj.toList.length := by rw [Array.length_toList, HSJ.out]; exact HN1.out
                rw [hl]
                exact G2.out.own HBB.out HCM.out)
              have B6 := Lib.hid (B5.out.trans (T2.out.1.mono HBB.out))
              have P6 := Lib.hid (show dj.toList.Perm ((l.take (k + 1)).filter (fitP n)) from (perm_of HPJ.out HS1.out.symm).trans PP.out)
              have S6 := Lib.hid (show SortedIn (ltP pol last) 0 dj.size dj by rw [HSJ.out]; exact X4.out)
              clear G2 T2 X4 HPJ HSJ
              go_wp2_with fail
              go_roundw
              case rel => exact ⟨k + 1, dj, by omega, by go_num, O6, B6, P6, S6⟩
              case measure => simp [intOf]; omega
    · have hlt' : ¬ (k : Int) < (m : Int) := by omega
      have P2 := Lib.hid (show d.toList.Perm (l.filter (fitP n)) by have := HP.out; rwa [List.take_of_length_le (by rw [HL.out]; omega)] at this)
      go_wp2_with fail
      refine bodyPost_ret (v := u9) (by kernel_rfl) rfl ?_
      first
      | exact ⟨_, d.toList, rfl, HO.out, BB.out, P2.out, pair_of HS.out rfl⟩
      | exact ⟨_, rfl, d.toList, HO.out, BB.out, P2.out, pair_of HS.out rfl⟩

end Go.Proofs.Ytcfeojobkpbohaa
