/- Rows whose elements are several cells: laws for the walk; what a row is behind an insertion, a removal. No program. -/
import Derived.Test.YtnngjbieoakanaaG6InletTwice
import Derived.Lib.Overlaps

namespace Go.Proofs.Ytnngjbieoakanaa
open Go.RowKit
set_option linter.unusedVariables false
section
variable {P : Program} {w : World} {ops : Array Oper} {rest : List Oper} {o : Oper} {a : Act} {Q : Exit → Act → World → Prop} {t e : TypeId} {z : Value} {sz bytes : Nat}
theorem wpList_runc (hgd : o.guard = none) (d s : Operand) {t1 t2 : TypeId} (ho : o.op = .call { callee := .builtin .copy, args := #[d, s], argTypes := #[t1, t2] }) {v u v' : Value} {w' : World} (hd : a.eval d = v) (hs : a.eval s = u)
    (hr : (Builtin.copy_ #[t1, t2] o.type #[v, u]).run P w = .ok v' w') (h : wpList P ops Q rest (a.put o.dst v') w') : wpList P ops Q (o :: rest) a w := by
  refine wpList_plain hgd fun K hK => ?_
  unfold Oper.wp execOp
  simp only [ho, resolve, invoke, builtin, Sem.run_bind, Sem.run_pure, Result.andThen_ok, List.map_toArray, List.map_cons, List.map_nil, hd, hs, hr]
  exact hK _ _ h
theorem wpList_runa (hgd : o.guard = none) (d s : Operand) {t1 t2 : TypeId} (ho : o.op = .call { callee := .builtin .append, args := #[d, s], argTypes := #[t1, t2] }) {v u v' : Value} {w' : World} (hd : a.eval d = v) (hs : a.eval s = u)
    (hr : (Builtin.append_ #[t1, t2] o.type #[v, u]).run P w = .ok v' w') (h : wpList P ops Q rest (a.put o.dst v') w') : wpList P ops Q (o :: rest) a w := by
  refine wpList_plain hgd fun K hK => ?_
  unfold Oper.wp execOp
  simp only [ho, resolve, invoke, builtin, Sem.run_bind, Sem.run_pure, Result.andThen_ok, List.map_toArray, List.map_cons, List.map_nil, hd, hs, hr]
  exact hK _ _ h
theorem wpList_runl (hgd : o.guard = none) (d : Operand) {t1 : TypeId} (ho : o.op = .call { callee := .builtin .clear, args := #[d], argTypes := #[t1] }) {v v' : Value} {w' : World} (hd : a.eval d = v)
    (hr : (Builtin.clear_ #[t1] o.type #[v]).run P w = .ok v' w') (h : wpList P ops Q rest (a.put o.dst v') w') : wpList P ops Q (o :: rest) a w := by
  refine wpList_plain hgd fun K hK => ?_
  unfold Oper.wp execOp
  simp only [ho, resolve, invoke, builtin, Sem.run_bind, Sem.run_pure, Result.andThen_ok, List.map_toArray, List.map_cons, List.map_nil, hd, hr]
  exact hK _ _ h
theorem cpyB (el : El P t e z sz bytes) (hgd : o.guard = none) (d s : Operand) (ho : o.op = .call { callee := .builtin .copy, args := #[d, s], argTypes := #[t, t] }) {dp sp : Option Addr} {dn dc sn sc : Nat} (hd : a.eval d = .slice dp dn dc) (hs : a.eval s = .slice sp sn sc)
    {g off : Nat} {L cs : List Value} (hm : Blk w g e L.toArray) (hdp : 0 < min sn dn → dp = some ⟨g, off, none⟩) (hn : cs.length = min sn dn * sz) (hsp : 0 < min sn dn → ∃ ad, sp = some ad ∧ ∀ j v, cs[j]? = some v → w.cell? (ad.add j) = some v)
    (hfit : off + cs.length ≤ L.length) (h1 : ∀ v ∈ cs, v.oneCell' = true) (h : ∀ w', Blk w' g e (splv L off cs).toArray → Solo g w w' → wpList P ops Q rest (a.put o.dst (.int .i64 ((min sn dn : Nat) : Int))) w') : wpList P ops Q (o :: rest) a w := by
  obtain ⟨w', hr, h2, h3⟩ := run_copy_blk (P := P) (ty := o.type) el hm hdp hn hsp hfit h1
  exact wpList_runc hgd d s ho hd hs hr (h w' h2 h3)
theorem clrB (el : El P t e z sz bytes) (hz1 : ∀ v ∈ z.cells.toList, v.oneCell' = true) (hgd : o.guard = none) (d : Operand) (ho : o.op = .call { callee := .builtin .clear, args := #[d], argTypes := #[t] }) {dp : Option Addr} {n c : Nat} (hd : a.eval d = .slice dp n c)
    {g off : Nat} {L : List Value} (hm : Blk w g e L.toArray) (hdp : 0 < n → dp = some ⟨g, off, none⟩) (hfit : off + n * sz ≤ L.length) (h : ∀ w' zs, zs.length = n * sz → Blk w' g e (splv L off zs).toArray → Solo g w w' → wpList P ops Q rest (a.put o.dst (.tuple #[])) w') : wpList P ops Q (o :: rest) a w := by
  obtain ⟨w', zs, hr, h1, h2, h3⟩ := run_clear_blk (P := P) (ty := o.type) el hz1 (c := c) hm hdp hfit
  exact wpList_runl hgd d ho hd hr (h w' zs h1 h2 h3)
theorem appB (el : El P t e z sz bytes) (hgd : o.guard = none) (d s : Operand) (ho : o.op = .call { callee := .builtin .append, args := #[d, s], argTypes := #[t, t] }) {sp : Option Addr} {g n c m mc : Nat} (hd : a.eval d = .slice (some ⟨g, 0, none⟩) n c) (hs : a.eval s = .slice sp m mc)
    {L cs : List Value} (hm : Blk w g e L.toArray) (hn : cs.length = m * sz) (hsp : 0 < m → ∃ ad, sp = some ad ∧ ∀ j v, cs[j]? = some v → w.cell? (ad.add j) = some v) (hroom : n + m ≤ c) (hfit : n * sz + cs.length ≤ L.length) (h1 : ∀ v ∈ cs, v.oneCell' = true)
    (h : ∀ w', Blk w' g e (splv L (n * sz) cs).toArray → Solo g w w' → wpList P ops Q rest (a.put o.dst (.slice (some ⟨g, 0, none⟩) (n + m) c)) w') : wpList P ops Q (o :: rest) a w := by
  obtain ⟨w', hr, h2, h3⟩ := run_app_blk (P := P) (ty := o.type) el (mc := mc) hm hn hsp hroom hfit h1
  exact wpList_runa hgd d s ho hd hs hr (h w' h2 h3)
/-- append(s[:n], make(S, k)...), where there is no room. -/
theorem zapB (el : El P t e z sz bytes) (hgd : o.guard = none) (d s : Operand) {tn : TypeId} {kq kn : IntKind} (htn : P.underlying tn = some (.int kn)) (ho : o.op = .call { callee := .builtin .append, args := #[d, s], argTypes := #[t, tn] }) {g n c k : Nat} (hd : a.eval d = .slice (some ⟨g, 0, none⟩) n c) (hs : a.eval s = .int kq (k : Int))
    {L : List Value} (hm : Blk w g e L.toArray) (hl : n * sz ≤ L.length) (h0 : 0 < k) (hroom : c < n + k) (hc : c ≤ 1000000) (hk : n + k ≤ 1000000) (hby : bytes ≤ 1000)
    (h : ∀ w' c' zs, zs.length = (c' - n) * sz → n + k ≤ c' → c' ≤ maxLen → Blk w' w.heap.size e (L.take (n * sz) ++ zs).toArray → Below w.heap.size w w' → w'.heap.size = w.heap.size + 1 → wpList P ops Q rest (a.put o.dst (.slice (some ⟨w.heap.size, 0, none⟩) (n + k) c')) w') : wpList P ops Q (o :: rest) a w := by
  obtain ⟨ht, hinf, hzs, hsz, hb1⟩ := el
  obtain ⟨i, hi, hz, hsize, hbyt⟩ := info_parts hinf
  have hlen : ((L.drop 0).take (n * sz)).length = n * i.size := by simp [hsize]; omega
  have hold := run_firstCells_some (P := P) w.drew i.size n ⟨g, 0, none⟩ n c ((L.drop 0).take (n * sz)) hlen (fun j v hj => blk_cells (w := w.drew) (e := e) hm j v hj)
  have hnext : Builtin.nextslicecap (n + k) c ≤ 4000000 := by
    have hgb : ∀ r c', c' ≤ 1000000 → Builtin.growBy (n + k) r c' ≤ 1000000 + 250200 := by
      intro r
      induction r with
      | zero => intro c' h; unfold Builtin.growBy; omega
      | succ r ih =>
        intro c' h
        unfold Builtin.growBy
        split
        · omega
        · by_cases h2 : c' + (c' + 768) / 4 ≤ 1000000
          · exact ih _ h2
          · have hx : ∀ r, Builtin.growBy (n + k) r (c' + (c' + 768) / 4) = c' + (c' + 768) / 4 := by
              intro r
              cases r with
              | zero => rfl
              | succ r => unfold Builtin.growBy; rw [if_pos (by omega)]
            rw [hx]
            omega
    unfold Builtin.nextslicecap
    split
    · omega
    · split
      · omega
      · exact Nat.le_trans (hgb 4 c hc) (by omega)
  have hfit : Builtin.nextslicecap (n + k) c * i.bytes ≤ 281474976710656 := by
    rw [hbyt]
    exact Nat.le_trans (Nat.mul_le_mul hnext hby) (by omega)
  have h48 : k * i.bytes ≤ 281474976710656 := by
    rw [hbyt]
    exact Nat.le_trans (Nat.mul_le_mul (show k ≤ 1000000 by omega) hby) (by omega)
  have hr := Lib.run_append_grow_zeros (P := P) w t tn o.type e i z kq kn ht htn hi hz (some ⟨g, 0, none⟩) n c _ hold k h0 (by omega) hroom (by omega) h48 hfit
  have hge := grownCap_ge w (n + k) c e
  refine wpList_runa hgd d s ho hd hs hr ?_
  refine h _ (grownCap w (n + k) c e) ((Builtin.zeroCells z.cells k).toList ++ (Builtin.zeroCells z.cells (grownCap w (n + k) c e - (n + k))).toList) ?_ hge (grownCap_le_maxLen w (n + k) c e (by unfold maxLen; omega)) ?_ ?_ ?_
  · simp only [List.length_append, Array.length_toList, size_zeroCells, hzs, ← Nat.add_mul]
    congr 1
    omega
  · have := heap_alloc_new w.drew (.cells ((((L.drop 0).take (n * sz)).toArray ++ Builtin.zeroCells z.cells k ++ Builtin.zeroCells z.cells (grownCap w (n + k) c e - (n + k)))) e)
    unfold Blk
    refine this.trans ?_
    congr 2
    apply Array.ext'
    simp
  · exact ((Below.refl _ _).drew).alloc (Nat.le_refl _) _
  · simp
end
/-- The new row's block is the old one or a new one. -/
def NewOr (v v' : Value) (w : World) : Prop := ∀ k, v'.ownBlock = some k → v.ownBlock = some k ∨ w.heap.size ≤ k
theorem NewOr.same {v v' : Value} {w : World} (h : v'.ownBlock = v.ownBlock) : NewOr v v' w := fun k hk => .inl (h ▸ hk)
theorem NewOr.new {v v' : Value} {w : World} {g : Nat} (h : v'.ownBlock = some g) (hg : w.heap.size ≤ g) : NewOr v v' w := fun k hk => by
  rw [h] at hk
  injection hk with hk
  exact .inr (hk ▸ hg)
section
variable {P : Program} {w : World} {ops : Array Oper} {rest : List Oper} {o : Oper} {a : Act} {Q : Exit → Act → World → Prop} {t e : TypeId} {z : Value} {sz bytes : Nat}
/-- append to a row of the call's own, and where the new row lies. -/
theorem app2 (el : El P t e z sz bytes) (hgd : o.guard = none) (s x : Operand) (ho : o.op = .call { callee := .builtin .append, args := #[s, x], argTypes := #[t, t] })
    {base : Nat} {v : Value} {n : Nat} {xs : List Value} (hs : a.eval s = v) (hown : w.ownsRow base e sz v n xs)
    {B : Nat} {A : Option Addr} {m c : Nat} {news : List Value} (hm0 : 0 < m) (hx : a.eval x = .slice A m c) (hr : Rd w B sz A m news) (h1 : ∀ u ∈ news, u.oneCell' = true)
    (hroom : (n + m) * bytes ≤ room) (hbase : base ≤ w.heap.size)
    (h : ∀ v' w', w'.ownsRow base e sz v' (n + m) (xs ++ news) → w.grownBy w' v.ownBlock → NewOr v v' w → wpList P ops Q rest (a.put o.dst v') w') : wpList P ops Q (o :: rest) a w := by
  obtain ⟨ht, hinf, hzs, hsz, hb1⟩ := el
  have hbytes := room_le hroom
  have h63 : n + m ≤ 140737488355328 := Nat.le_trans (Nat.le_mul_of_pos_right _ hb1) hbytes
  obtain ⟨i, hi, hz, hsize, hby⟩ := info_parts hinf
  subst hsize
  obtain ⟨b, off, rfl, _, hc⟩ := hr.2 hm0
  have hnews : ∀ j u, news[j]? = some u → w.cell? ((⟨b, off, none⟩ : Addr).add j) = some u := by
    intro j u hu
    have hj : j < m * i.size := by
      have := (List.getElem?_eq_some_iff.1 hu).1
      have := hr.1
      omega
    rw [addr_add, hc j hj, hu]
  subst hby
  obtain ⟨v', w', hrun, h2, h3, _⟩ := run_append_own (P := P) w base t o.type e i z i.size i.bytes ht hi hz rfl rfl hzs hsz v n xs hown ⟨b, off, none⟩ m c news hr.1 hnews h1 (by unfold maxLen; omega) hbytes hbase
  refine wpList_runa hgd s x ho hs hx hrun (h v' w' h2 h3 ?_)
  have heq : ∀ {u u' : World} {y y' : Value}, (Result.ok y u : Result Value) = .ok y' u' → y = y' := by
    intro u u' y y' e
    injection e
  rcases hown.2 with ⟨rfl, rfl⟩ | ⟨g, cap, cur, rfl, hbg, hg, hnc, hcm, hcs, htake⟩
  · have hr2 := run_append_nil (P := P) w t o.type e i z ht hi hz ⟨b, off, none⟩ m c news hr.1 hnews (by omega) (by omega) (by have hb := hbytes; simp only [Nat.zero_add] at hb; omega)
    rw [hr2] at hrun
    have := heq hrun
    subst this
    exact NewOr.new (g := w.heap.size) rfl (Nat.le_refl _)
  · by_cases hrm : n + m ≤ cap
    · have hfit : n * i.size + news.length ≤ cur.size := by rw [hr.1, hcs, ← Nat.add_mul]; exact Nat.mul_le_mul_right _ hrm
      have hr2 := run_append_room (P := P) w t o.type e i ht hi g n cap cur hg ⟨b, off, none⟩ m c news hr.1 hnews h1 hrm hfit
      rw [hr2] at hrun
      have := heq hrun
      subst this
      exact NewOr.same rfl
    · have holds : ∀ j u, xs[j]? = some u → w.cell? ((⟨g, 0, none⟩ : Addr).add j) = some u := hown.cells (g := g) rfl
      have hr2 := run_append_grow (P := P) w t o.type e i z ht hi hz ⟨g, 0, none⟩ n cap xs hown.1 holds ⟨b, off, none⟩ m c news hr.1 hnews (by omega) (by omega) (growslice_fits (by omega) hbytes)
      rw [hr2] at hrun
      have := heq hrun
      subst this
      exact NewOr.new (g := w.heap.size) rfl (Nat.le_refl _)
end
/-- A removal. -/
theorem del_row {L xs zs : List Value} {n i j c sz : Nat} (hl : L.length = c * sz) (hx : L.take (n * sz) = xs) (hij : i ≤ j) (hjn : j ≤ n) (hnc : n ≤ c) (hz : zs.length = (j - i) * sz) :
    ((splv (splv L (i * sz) (xs.drop (j * sz))) ((n - (j - i)) * sz) zs).take ((n - (j - i)) * sz)) = xs.take (i * sz) ++ xs.drop (j * sz) := by
  subst hx
  have e1 := Nat.mul_le_mul_right sz hij
  have e2 := Nat.mul_le_mul_right sz hjn
  have e3 := Nat.mul_le_mul_right sz hnc
  have e4 : (n - (j - i)) * sz = n * sz - (j * sz - i * sz) := by rw [Nat.sub_mul, Nat.sub_mul]
  rw [e4]
  generalize n * sz = N at *
  generalize i * sz = I at *
  generalize j * sz = J at *
  rw [← hl] at e3
  have el : ((L.take N).drop J).length = N - J := by simp; omega
  unfold splv
  rw [List.take_append_of_le_length (by simp; omega), List.take_append_of_le_length (by simp; omega), List.take_take, Nat.min_self]
  rw [List.take_append_of_le_length (by simp; omega), List.take_of_length_le (by simp; omega), List.take_take, Nat.min_eq_left (by omega)]
/-- An insertion, in place. -/
theorem ins_row {L xs y : List Value} {n i c sz : Nat} (hl : L.length = c * sz) (hx : L.take (n * sz) = xs) (hin : i ≤ n) (hnc : n + 1 ≤ c) (hy : y.length = sz) :
    (splv (splv L ((i + 1) * sz) (xs.drop (i * sz))) (i * sz) y).take ((n + 1) * sz) = xs.take (i * sz) ++ y ++ xs.drop (i * sz) := by
  subst hx
  have e1 := Nat.mul_le_mul_right sz hin
  have e2 := Nat.mul_le_mul_right sz hnc
  rw [← hl] at e2
  rw [Nat.add_mul, Nat.one_mul] at e2 ⊢
  rw [Nat.add_mul, Nat.one_mul]
  generalize n * sz = N at *
  generalize i * sz = I at *
  have ea : ((L.take N).drop I).length = N - I := by simp; omega
  apply List.ext_getElem?
  intro k
  rw [List.append_assoc, List.getElem?_append, List.getElem?_append]
  by_cases hk : k < N + sz
  · rw [List.getElem?_take_of_lt hk, splv_get (by rw [splv_len (by rw [ea]; omega)]; omega), splv_get (by rw [ea]; omega)]
    have e3 : ((L.take N).take I).length = I := by simp; omega
    rw [e3, ea, hy]
    by_cases h1 : k < I
    · rw [if_neg (by omega), if_neg (by omega), if_pos h1, List.getElem?_take_of_lt h1, List.getElem?_take_of_lt (by omega)]
    · rw [if_neg h1]
      by_cases h2 : k < I + sz
      · rw [if_pos (by omega), if_pos (by omega)]
      · rw [if_neg (by omega), if_pos (by omega), if_neg (by omega)]
        congr 1
        omega
  · rw [List.getElem?_eq_none (by rw [List.length_take]; omega)]
    have e3 : ((L.take N).take I).length = I := by simp; omega
    rw [e3, hy, if_neg (by omega), if_neg (by omega), List.getElem?_eq_none (by rw [ea]; omega)]
/-- An insertion, into a row of its own. -/
theorem ins_new {L zs xs y : List Value} {n i c' sz : Nat} (hx : L.take (n * sz) = xs) (hxl : xs.length = n * sz) (hz : zs.length = (c' - i) * sz) (hin : i ≤ n) (hnc : n + 1 ≤ c') (hy : y.length = sz) :
    (splv (splv (L.take (i * sz) ++ zs) (i * sz) y) ((i + 1) * sz) (xs.drop (i * sz))).take ((n + 1) * sz) = xs.take (i * sz) ++ y ++ xs.drop (i * sz) := by
  have e1 := Nat.mul_le_mul_right sz hin
  have e2 := Nat.mul_le_mul_right sz hnc
  have hLi : L.take (i * sz) = xs.take (i * sz) := by rw [← hx, List.take_take, Nat.min_eq_left e1]
  rw [hLi]
  clear hLi hx
  rw [Nat.sub_mul] at hz
  rw [Nat.add_mul, Nat.one_mul] at e2 ⊢
  rw [Nat.add_mul, Nat.one_mul]
  generalize n * sz = N at *
  generalize i * sz = I at *
  generalize c' * sz = C at *
  have e3 : (xs.take I).length = I := by simp; omega
  have e4 : (xs.drop I).length = N - I := by simp; omega
  have e5 : (xs.take I ++ zs).length = C := by simp; omega
  unfold splv
  rw [List.take_left' e3]
  have e6 : (xs.take I ++ y ++ (xs.take I ++ zs).drop (I + y.length)).take (I + sz) = xs.take I ++ y := List.take_left' (by simp; omega)
  rw [e6]
  rw [List.take_append_of_le_length (by simp; omega), List.take_of_length_le (by simp; omega)]
theorem splv_ins_len {L cs : List Value} {o : Nat} (h : o + cs.length ≤ L.length) : (splv L o cs).length = L.length := splv_len h
/-- One put in the place of some. -/
theorem rep_row {L xs y zs : List Value} {n i j c sz : Nat} (hl : L.length = c * sz) (hx : L.take (n * sz) = xs) (hij : i + 1 ≤ j) (hjn : j ≤ n) (hnc : n ≤ c) (hy : y.length = sz) :
    (splv (splv (splv L (i * sz) y) ((i + 1) * sz) (xs.drop (j * sz))) ((i + 1 + (n - j)) * sz) zs).take ((i + 1 + (n - j)) * sz) = xs.take (i * sz) ++ y ++ xs.drop (j * sz) := by
  subst hx
  have e1 := Nat.mul_le_mul_right sz hij
  have e2 := Nat.mul_le_mul_right sz hjn
  have e3 := Nat.mul_le_mul_right sz hnc
  have e4 : (i + 1 + (n - j)) * sz = i * sz + sz + (n * sz - j * sz) := by rw [Nat.add_mul, Nat.add_mul, Nat.one_mul, Nat.sub_mul]
  rw [e4]
  rw [Nat.add_mul, Nat.one_mul] at e1 ⊢
  rw [← hl] at e3
  generalize n * sz = N at *
  generalize i * sz = I at *
  generalize j * sz = J at *
  have a1 : (L.take I).length = I := by simp; omega
  have a2 : ((L.take N).drop J).length = N - J := by simp; omega
  have a3 : (L.take I ++ y).length = I + sz := by simp; omega
  have b1 : splv L I y = L.take I ++ y ++ L.drop (I + y.length) := rfl
  have b2 : (splv L I y).take (I + sz) = L.take I ++ y := by rw [b1]; exact List.take_left' a3
  have b3 : (splv (splv L I y) (I + sz) ((L.take N).drop J)).take (I + sz + (N - J)) = L.take I ++ y ++ (L.take N).drop J := by
    conv => lhs; rw [show splv (splv L I y) (I + sz) ((L.take N).drop J) = (splv L I y).take (I + sz) ++ (L.take N).drop J ++ (splv L I y).drop (I + sz + ((L.take N).drop J).length) from rfl]
    rw [b2]
    exact List.take_left' (by simp; omega)
  conv => lhs; rw [show splv (splv (splv L I y) (I + sz) ((L.take N).drop J)) (I + sz + (N - J)) zs = (splv (splv L I y) (I + sz) ((L.take N).drop J)).take (I + sz + (N - J)) ++ zs ++ (splv (splv L I y) (I + sz) ((L.take N).drop J)).drop (I + sz + (N - J) + zs.length) from rfl]
  rw [b3, List.append_assoc, List.take_left' (by simp; omega), List.take_take, Nat.min_eq_left (by omega)]
theorem Blk.shape {w : World} {g : Nat} {t : TypeId} {cs : Array Value} (h : Blk w g t cs) : w.shape? g = some (t, cs.size) := by
  unfold Blk at h
  simp [World.shape?, h]
theorem Blk.rd {w : World} {g : Nat} {t : TypeId} {y : List Value} {sz : Nat} (h : Blk w g t y.toArray) (hy : y.length = sz) : Rd w w.heap.size sz (some ⟨g, 0, none⟩) 1 y := by
  refine ⟨by omega, fun _ => ⟨g, 0, rfl, h.lt, fun j hj => ?_⟩⟩
  rw [h.cell]
  simp
theorem Blk.at0 {w : World} {g : Nat} {t : TypeId} {y : List Value} (h : Blk w g t y.toArray) (q : Nat) (u : Value) (hq : y[q]? = some u) : w.cell? ((⟨g, 0, none⟩ : Addr).add q) = some u := by
  rw [addr_add, h.cell]
  simpa using hq
/-- A block of another type is no row's. -/
theorem Blk.far2 {w w' : World} {g : Nat} {t e : TypeId} {cs : Array Value} {B sz n : Nat} {v : Value} {xs : List Value} (h : Blk w g t cs) (ho : w.ownsRow B e sz v n xs) (hne : e ≠ t) (hg : w.grownBy w' v.ownBlock) : Blk w' g t cs := by
  refine (hg.block g h.lt fun he => ?_).trans h
  rcases ho.2 with ⟨rfl, _⟩ | ⟨g', cap, cur, rfl, _, hh, _⟩
  · simp [Value.ownBlock] at he
  · simp [Value.ownBlock] at he
    subst he
    unfold Blk at h
    rw [h] at hh
    injection hh with hh
    injection hh with _ ht
    exact hne ht.symm
end Go.Proofs.Ytnngjbieoakanaa
