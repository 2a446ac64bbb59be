/- Layer 31: what is read of what was written, and the other way round. -/
import Derived.Test.YtpnnadnmkiobcaaG20SackBack
import Derived.Test.YtpnnadnmkiobcaaG12SackBack

namespace Go.Proofs.Ytpnnadnmkiobcaa
open Go.RowKit
set_option linter.unusedVariables false
set_option linter.unusedSimpArgs false
theorem nx_gp {a b : Int} (hb : U32 b) : nx a (gp a b) = b := by
  obtain ⟨b0, b1⟩ := hb
  unfold nx gp
  omega
theorem gp_nx {a : Int} {k : Nat} (hk : k < 4294967296) : gp a (nx a k) = k := by
  unfold nx gp
  omega
theorem ub_be4 {k : Nat} (hk : k < 4294967296) : ub (be k 4) = k := by
  rw [ub_be]; exact Nat.mod_eq_of_lt (by omega)
theorem be_ub4 {l : List Nat} (hl : l.length = 4) (h : ∀ x ∈ l, x < 256) : be (ub l) 4 = l := by
  have := be_ub l h
  rwa [hl] at this
theorem bkB_len (a : Int) (p : Bk) : (bkB a p).length = 8 := by simp [bkB, be_len]
theorem pcB_bkB {a : Int} {p : Bk} {r : List Nat} (h1 : U32 p.1) (h2 : U32 p.2) : pcB a (bkB a p ++ r) = p := by
  have e1 : (bkB a p ++ r).take 4 = be (gp a p.1) 4 := by
    unfold bkB
    rw [List.append_assoc, List.take_append_of_le_length (by rw [be_len]; omega), List.take_of_length_le (by rw [be_len]; omega)]
  have e2 : ((bkB a p ++ r).drop 4).take 4 = be (gp p.1 p.2) 4 := by
    unfold bkB
    rw [List.append_assoc, List.drop_append_of_le_length (by rw [be_len]; omega), List.drop_of_length_le (by rw [be_len]; omega), List.nil_append,
      List.take_append_of_le_length (by rw [be_len]; omega), List.take_of_length_le (by rw [be_len]; omega)]
  unfold pcB
  rw [e1, e2, ub_be4 (gp_lt _ _), ub_be4 (gp_lt _ _), nx_gp h1, nx_gp h2]
theorem parB_bksB : ∀ (l : List Bk) (a : Int), U32s l → parB l.length a (bksB a l) = l
  | [], _, _ => rfl
  | p :: l, a, h => by
    have hp := h p (by simp)
    show pcB a (bkB a p ++ bksB p.2 l) :: parB l.length (pcB a (bkB a p ++ bksB p.2 l)).2 ((bkB a p ++ bksB p.2 l).drop 8) = p :: l
    rw [pcB_bkB hp.1 hp.2, List.drop_append_of_le_length (by rw [bkB_len]; omega), List.drop_of_length_le (by rw [bkB_len]; omega), List.nil_append, parB_bksB l p.2 fun q hq => h q (by simp [hq])]
theorem bkB_pcB {a : Int} {b : List Nat} (hl : 8 ≤ b.length) (hb : ∀ x ∈ b, x < 256) : bkB a (pcB a b) = b.take 8 := by
  have l1 : (b.take 4).length = 4 := by rw [List.length_take]; omega
  have l2 : ((b.drop 4).take 4).length = 4 := by rw [List.length_take, List.length_drop]; omega
  have b1 : ∀ x ∈ b.take 4, x < 256 := fun x hx => hb x (List.mem_of_mem_take hx)
  have b2 : ∀ x ∈ (b.drop 4).take 4, x < 256 := fun x hx => hb x (List.mem_of_mem_drop (List.mem_of_mem_take hx))
  have u1 : ub (b.take 4) < 4294967296 := ub_lt 4 _ l1 b1
  have u2 : ub ((b.drop 4).take 4) < 4294967296 := ub_lt 4 _ l2 b2
  unfold bkB pcB
  rw [gp_nx u1, gp_nx u2, be_ub4 l1 b1, be_ub4 l2 b2]
  rw [show (8 : Nat) = 4 + 4 from rfl, List.take_add]
theorem bksB_parB : ∀ (m : Nat) (a : Int) (b : List Nat), b.length = 8 * m → (∀ x ∈ b, x < 256) → bksB a (parB m a b) = b
  | 0, _, b, hl, _ => by
    have : b = [] := List.eq_nil_of_length_eq_zero (by omega)
    rw [this]; rfl
  | m + 1, a, b, hl, hb => by
    show bkB a (pcB a b) ++ bksB (pcB a b).2 (parB m (pcB a b).2 (b.drop 8)) = b
    rw [bkB_pcB (by omega) hb, bksB_parB m _ (b.drop 8) (by rw [List.length_drop]; omega) fun x hx => hb x (List.mem_of_mem_drop hx), List.take_append_drop]
theorem spok_back {wait : Int} {l : List Bk} (h0 : l ≠ []) (hr : bkR wait l) (hu : U32s l) : SPOk wait 9 (bksB wait l).length (bksB wait l) := by
  have hl := bksB_len l wait
  have h1 : l.length ≠ 0 := fun e => h0 (List.eq_nil_of_length_eq_zero e)
  have h4 := hr.1
  refine ⟨rfl, by omega, by omega, by omega, ?_⟩
  rw [hl, Nat.mul_div_cancel_left _ (by omega), parB_bksB l wait hu]
  exact hr
theorem par_back {wait : Int} {l : List Bk} (hu : U32s l) : parB ((bksB wait l).length / 8) wait (bksB wait l) = l := by
  rw [bksB_len, Nat.mul_div_cancel_left _ (by omega), parB_bksB l wait hu]
theorem bks_back {wait kind : Int} {n : Nat} {lb : List Nat} (h : SPOk wait kind n lb) (hn : lb.length = n) (hb : ∀ x ∈ lb, x < 256) : bksB wait (parB (n / 8) wait lb) = lb ∧ parB (n / 8) wait lb ≠ [] := by
  obtain ⟨_, h0, h8, _, _⟩ := h
  refine ⟨bksB_parB _ _ _ (by omega) hb, fun e => ?_⟩
  have := parB_len (n / 8) wait lb
  rw [e] at this
  simp at this
  omega
theorem bksB_byte : ∀ (l : List Bk) (a : Int), ∀ x ∈ bksB a l, x < 256
  | [], _, x, hx => by cases hx
  | p :: l, a, x, hx => by
    rcases List.mem_append.1 hx with h | h
    · rcases List.mem_append.1 h with h | h
      · exact be_byte _ _ x h
      · exact be_byte _ _ x h
    · exact bksB_byte l _ x h
end Go.Proofs.Ytpnnadnmkiobcaa
