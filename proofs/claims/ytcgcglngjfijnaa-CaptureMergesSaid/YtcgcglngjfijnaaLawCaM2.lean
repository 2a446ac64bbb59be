/- Layer 34: CaptureMerges, as its row asks it. -/
import Derived.Test.YtcgcglngjfijnaaLawCaM
import Derived.SizedLaws
import Derived.Test.YtcgcglngjfijnaaOpenN
namespace Go.Proofs.Ytcgcglngjfijnaa
open Go.RowKit Go.ChangeShapes Go.WideShapes Go.ChangeAt
set_option linter.unusedVariables false
set_option linter.unusedSimpArgs false
section
variable {H : Type} {enc : TypeId × Value → H} {w : World} {held : Bool}
theorem weightsAll_mem {P : Program} {e : TypeId} : ∀ {l : List (DataW H)} {i : Nat} {d : DataW H}, l[i]? = some d → ∀ n ∈ d.weights P e, n ∈ DataW.weightsAll P e l
  | [], i, d, h, n, hn => by simp at h
  | d0 :: l, 0, d, h, n, hn => by
    simp at h
    subst h
    simp only [DataW.weightsAll, List.mem_append]
    exact .inl hn
  | d0 :: l, i + 1, d, h, n, hn => by
    simp only [DataW.weightsAll, List.mem_append]
    exact .inr (weightsAll_mem (by simpa using h) n hn)
theorem four {α : Type} {cs : List α} {x : α} (h : cs.length = 4) (h3 : cs[3]? = some x) : (cs.drop 3).take 1 = [x] := by
  match cs, h, h3 with
  | [c0, c1, c2, c3], _, h3 => simp at h3; subst h3; rfl
theorem recs_reach {b off len cap : Nat} {d : DataW H} {ps : List MemPlace} (h : DataW.Trod enc Try.prog w 0 (fun _ => true) held 85 (.slice (some ⟨b, off, none⟩) len cap) d ps)
    (hw : ∀ n ∈ d.weights Try.prog 85, n ≤ reachBytes) {i : Nat} (hi : i < len) {A' : Option Addr} {n' c' : Nat} (hc : w.cell? ⟨b, off + i * 4 + 3, none⟩ = some (.slice A' n' c')) : n' ≤ reachBytes := by
  obtain ⟨fuel, hf⟩ := h
  rcases DataW.trod_slice Try.underlying85 hf with ⟨e, _⟩ | ⟨a, len', cap', elems, rest, n, rfl, hcs, hx, _, hlc, hcm, hel, hE, _, _⟩
  · simp [Value.cells] at e
  simp [Value.cells] at hcs
  obtain ⟨rfl, rfl, rfl⟩ := hcs
  have hE' := hE i hi
  rw [show Try.prog.cellsOf 93 = 4 by kernel_rfl] at hE'
  have hil : i < elems.length := by omega
  rw [List.getElem?_eq_getElem hil] at hE'
  cases hq : w.cells? 0 ((⟨b, off, none⟩ : Addr).add (i * 4)) 4 with
  | none => rw [hq] at hE'; cases hE'
  | some cs =>
    rw [hq] at hE'
    have hy : DataW.trod enc Try.prog w 0 (fun _ => true) held n 93 cs = some elems[i] := hE'
    obtain ⟨xs, m, _, hxy, hl, hxs, hfs⟩ := DataW.trod_struct Try.underlying93 hy
    have g3 : DataW.trod enc Try.prog w 0 (fun _ => true) held m 51 ((cs.drop 3).take (Try.prog.cellsOf 51)) = xs[3]? := hfs 3 _ rfl
    obtain ⟨_, hlen, hcells⟩ := World.cells?_some hq
    have h3 : cs[3]? = some (.slice A' n' c') := by
      have := hcells 3 (by omega)
      rw [← this, addr_add]
      unfold Addr.add
      rw [if_neg (by omega)]
      exact hc
    have hd3 : (cs.drop 3).take 1 = [.slice A' n' c'] := four hlen h3
    rw [show (Try.prog.cellsOf 51) = 1 by kernel_rfl] at g3
    rw [hd3] at g3
    have h3x : 3 < xs.length := by rw [hxs]; decide
    rw [List.getElem?_eq_getElem h3x] at g3
    rcases DataW.trod_slice Try.underlying51 g3 with ⟨e, _⟩ | ⟨a2, len2, cap2, el2, rest2, n2, _, hcs2, hx2, _, hlc2, _, hel2, _, _, _⟩
    · simp at e
      omega
    · simp at hcs2
      obtain ⟨_, rfl, _⟩ := hcs2
      have hmem : (el2.length + rest2.length) * Try.prog.bytesOf 5 ∈ d.weights Try.prog 85 := by
        have hd : d = .slice (elems.map (·.1)) (rest.map (·.1)) := congrArg Prod.fst hx
        rw [hd]
        simp only [DataW.weights, Try.underlying85, List.mem_cons, List.mem_append]
        refine .inr (.inl (weightsAll_mem (i := i) (d := elems[i].1) (by simp [hil]) _ ?_))
        rw [hxy]
        simp only [DataW.weights, Try.underlying93]
        refine DataW.weights_mem_each (j := 3) (t := 51) (d := xs[3].1) (by rfl) (by simp [h3x]) _ ?_
        rw [hx2]
        simp [DataW.weights, Try.underlying51]
      have := hw _ hmem
      rw [show Try.prog.bytesOf 5 = 1 by kernel_rfl] at this
      omega
end
theorem open_span {H : Type} {enc : TypeId × Value → H} {w : World} {held : Bool} {cs : Array Value} {d : DataW H} {ps : List MemPlace} (h : DataW.Trod enc Try.prog w 0 (fun _ => true) held 87 (.agg cs) d ps) : ∃ q : Int × Int, cs = #[.int .i64 q.1, .int .i64 q.2] ∧ (-9223372036854775808 ≤ q.1 ∧ q.1 < 9223372036854775808) ∧ (-9223372036854775808 ≤ q.2 ∧ q.2 < 9223372036854775808) := by
  obtain ⟨⟨a0, a1⟩, h1, h2⟩ := open_agg (opens_z_1_1 (enc := enc) (w := w) (held := held) Try.underlying87 (by kernel_rfl) rfl (by kernel_rfl) (opens_i64 Try.underlying3) rfl (by kernel_rfl) (opens_i64 Try.underlying3)) h
  obtain ⟨b0, b1⟩ := h2
  refine ⟨(a0, a1), ?_, b0, b1⟩
  · rw [← Array.toArray_toList (xs := cs), h1]
    rfl

section
variable {H : Type} {enc : TypeId × Value → H} {w : World} {held : Bool}
theorem recs_bound {A : Option Addr} {len cap : Nat} {l : List Rb} {d : DataW H} {ps : List MemPlace} (hr : Rs w A len cap l) (h : DataW.Trod enc Try.prog w 0 (fun _ => true) held 85 (.slice A len cap) d ps)
    (hw : ∀ n ∈ d.weights Try.prog 85, n ≤ reachBytes) : ∀ p ∈ l, p.2.2.2.n ≤ 140737488355328 := by
  intro p hp
  obtain ⟨i, hi⟩ := List.getElem?_of_mem hp
  have hil : i < l.length := (List.getElem?_eq_some_iff.1 hi).1
  rw [hr.len] at hil
  obtain ⟨b, off, t, s, q, bd, rfl, _, _, _, _, y, hp', _⟩ := hr.at_ hil
  have e : p = (t, s, q, bd) := Option.some.inj (hi.symm.trans hp'.out)
  subst e
  have h1 := recs_reach h hw hil y
  have h2 := reachBytes_lt
  dsimp only
  omega
end
theorem captureMerges_row (A1 : Option Addr) (n1 c1 : Nat) (l1 : List Rb) (A2 : Option Addr) (n2 c2 : Nat) (l2 : List Rb) (q : Int × Int) (w : World) (a1 : Rd w w.heap.size 4 A1 n1 (rbcs l1)) (a2 : n1 ≤ c1) (a3 : c1 ≤ maxLen) (a4 : ∀ p ∈ l1, i64ok p.1 ∧ i64ok p.2.1 ∧ i64ok p.2.2.1 ∧ Body.ok w p.2.2.2)
    (b1 : Rd w w.heap.size 4 A2 n2 (rbcs l2)) (b2 : n2 ≤ c2) (b3 : c2 ≤ maxLen) (b4 : ∀ p ∈ l2, i64ok p.1 ∧ i64ok p.2.1 ∧ i64ok p.2.2.1 ∧ Body.ok w p.2.2.2) (hq : (-9223372036854775808 ≤ q.1 ∧ q.1 < 9223372036854775808) ∧ (-9223372036854775808 ≤ q.2 ∧ q.2 < 9223372036854775808))
    (r1 : ∀ p ∈ l1, p.2.2.2.n ≤ 140737488355328) (r2 : ∀ p ∈ l2, p.2.2.2.n ≤ 140737488355328) :
    Calls Try.prog 9 #[.slice A1 n1 c1, .slice A2 n2 c2, .agg #[.int .i64 q.1, .int .i64 q.2]] w fun e w' => e = .returned (.bool true) ∧ Below w.heap.size w w' :=
  captureMerges_walk A1 n1 c1 l1 A2 n2 c2 l2 q.1 q.2 w (rs_of a1 a2 a3 a4) (rs_of b1 b2 b3 b4) r1 r2
end Go.Proofs.Ytcgcglngjfijnaa
