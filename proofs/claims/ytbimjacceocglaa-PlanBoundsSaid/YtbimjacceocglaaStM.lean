/- A stable sort's mathematics: rows that are turned round, two sorted parts made one, blocks. No program. -/
import Derived.Sort.Lot0
namespace Go.Proofs.Ytbimjacceocglaa
open Go.Sort
set_option linter.unusedVariables false
section
variable {α : Type} [Inhabited α] {lt : α → α → Bool}
/-- Two parts of n places have changed their places. -/
def Xch (d d' : Array α) (a b n : Nat) : Prop := ∀ x, d'[x]! = if a ≤ x ∧ x < a + n then d[b + (x - a)]! else if b ≤ x ∧ x < b + n then d[a + (x - b)]! else d[x]!
/-- What stood at lo to m stands behind what stood at m to hi. -/
def Rot (d d' : Array α) (lo m hi : Nat) : Prop := ∀ x, d'[x]! = if lo ≤ x ∧ x < lo + (hi - m) then d[x + (m - lo)]! else if lo + (hi - m) ≤ x ∧ x < hi then d[x - (hi - m)]! else d[x]!
variable {d d1 d' : Array α}
theorem Xch.start (d : Array α) (a b : Nat) : Xch d d a b 0 := fun x => by rw [if_neg (by omega), if_neg (by omega)]
theorem Xch.step {a b n : Nat} (h : Xch d d1 a b n) (hd : a + n < b) (hb : b + n < d1.size) : Xch d (swp d1 (a + n) (b + n)) a b (n + 1) := fun x => by
  by_cases h1 : x = a + n
  · subst h1
    rw [swp_left d1 _ _ (by omega) (by omega), h, if_neg (by omega), if_neg (by omega), if_pos (by omega)]
    congr 1; omega
  · by_cases h2 : x = b + n
    · subst h2
      rw [swp_right d1 _ _ hb, h, if_neg (by omega), if_neg (by omega), if_neg (by omega), if_pos (by omega)]
      congr 1; omega
    · rw [swp_other d1 _ _ _ h1 h2, h]
      by_cases h3 : a ≤ x ∧ x < a + n
      · rw [if_pos h3, if_pos (show a ≤ x ∧ x < a + (n + 1) by omega)]
      · by_cases h4 : b ≤ x ∧ x < b + n
        · rw [if_neg h3, if_pos h4, if_neg (show ¬ (a ≤ x ∧ x < a + (n + 1)) by omega), if_pos (show b ≤ x ∧ x < b + (n + 1) by omega)]
        · rw [if_neg h3, if_neg h4, if_neg (show ¬ (a ≤ x ∧ x < a + (n + 1)) by omega), if_neg (show ¬ (b ≤ x ∧ x < b + (n + 1)) by omega)]
theorem Rot.more {i j m : Nat} (hi : i ≤ m) (hij : j < i) (hx : Xch d d1 (m - i) m j) (hr : Rot d1 d' (m - (i - j)) m (m + j)) : Rot d d' (m - i) m (m + j) := fun x => by
  rw [hr x]
  by_cases h1 : m - i ≤ x ∧ x < m - i + (m + j - m)
  · rw [if_pos h1, if_neg (by omega), if_neg (by omega), hx, if_pos (by omega)]
    congr 1; omega
  · rw [if_neg h1]
    by_cases h2 : m - i + (m + j - m) ≤ x ∧ x < m + j
    · rw [if_pos h2]
      by_cases h3 : m - (i - j) ≤ x ∧ x < m - (i - j) + (m + j - m)
      · rw [if_pos h3, hx, if_neg (by omega)]
        by_cases h4 : m ≤ x + (m - (m - (i - j)))
        · rw [if_pos (by omega)]; congr 1; omega
        · omega
      · rw [if_neg h3, if_pos (by omega), hx, if_neg (by omega), if_neg (by omega)]
    · rw [if_neg h2, if_neg (by omega), if_neg (by omega), hx, if_neg (by omega), if_neg (by omega)]
theorem Rot.less {i j m : Nat} (hi : i ≤ m) (hij : i < j) (hx : Xch d d1 (m - i) (m + j - i) i) (hr : Rot d1 d' (m - i) m (m + (j - i))) : Rot d d' (m - i) m (m + j) := fun x => by
  rw [hr x]
  by_cases h1 : m - i ≤ x ∧ x < m - i + (m + (j - i) - m)
  · rw [if_pos h1, hx, if_neg (by omega)]
    by_cases h2 : m + j - i ≤ x + (m - (m - i))
    · rw [if_pos (by omega), if_pos (by omega)]; omega
    · rw [if_neg (by omega), if_pos (by omega)]
  · rw [if_neg h1]
    by_cases h2 : m - i + (m + (j - i) - m) ≤ x ∧ x < m + (j - i)
    · rw [if_pos h2, hx, if_pos (by omega), if_pos (by omega)]
      congr 1; omega
    · rw [if_neg h2, hx]
      by_cases h3 : m - i ≤ x ∧ x < m - i + i
      · omega
      · rw [if_neg h3]
        by_cases h4 : m + j - i ≤ x ∧ x < m + j - i + i
        · rw [if_pos h4, if_neg (by omega), if_pos (by omega)]
          congr 1; omega
        · rw [if_neg h4, if_neg (by omega), if_neg (by omega)]
theorem Rot.same {i m : Nat} (hi : i ≤ m) (hx : Xch d d' (m - i) m i) : Rot d d' (m - i) m (m + i) := fun x => by
  rw [hx x]
  by_cases h1 : m - i ≤ x ∧ x < m - i + i
  · rw [if_pos h1, if_pos (by omega)]; congr 1; omega
  · rw [if_neg h1]
    by_cases h2 : m ≤ x ∧ x < m + i
    · rw [if_pos h2, if_neg (by omega), if_pos (by omega)]; congr 1; omega
    · rw [if_neg h2, if_neg (by omega), if_neg (by omega)]
theorem Rot.left (d : Array α) {m hi : Nat} (h : m ≤ hi) : Rot d d m m hi := fun x => by
  by_cases h1 : m ≤ x ∧ x < m + (hi - m)
  · rw [if_pos h1]; congr 1; omega
  · rw [if_neg h1, if_neg (by omega)]
theorem Rot.right (d : Array α) {lo m : Nat} (h : lo ≤ m) : Rot d d lo m m := fun x => by
  rw [if_neg (by omega)]
  by_cases h1 : lo + (m - m) ≤ x ∧ x < m
  · rw [if_pos h1]; congr 1; omega
  · rw [if_neg h1]
/-- The first one goes up, step by step; the last one goes down. -/
theorem Rot.up {a k : Nat} (h : Rot d d1 a (a + 1) (k + 1)) (ha : a ≤ k) (hk : k + 1 < d1.size) : Rot d (swp d1 k (k + 1)) a (a + 1) (k + 1 + 1) := fun x => by
  by_cases h1 : x = k
  · subst h1
    rw [swp_left d1 _ _ (by omega) (by omega), h, if_neg (by omega), if_neg (by omega), if_pos (by omega)]
    congr 1; omega
  · by_cases h2 : x = k + 1
    · subst h2
      rw [swp_right d1 _ _ hk, h]
      rw [if_neg (by omega : ¬ (a ≤ k + 1 ∧ k + 1 < a + (k + 1 + 1 - (a + 1)))), if_pos (by omega : a + (k + 1 + 1 - (a + 1)) ≤ k + 1 ∧ k + 1 < k + 1 + 1)]
      rw [if_neg (by omega), if_pos (by omega)]
      congr 1; omega
    · rw [swp_other d1 _ _ _ h1 h2, h]
      by_cases h3 : a ≤ x ∧ x < a + (k + 1 - (a + 1))
      · rw [if_pos h3, if_pos (by omega)]
      · rw [if_neg h3, if_neg (by omega), if_neg (by omega), if_neg (by omega)]
theorem Rot.down {m k : Nat} (h : Rot d d1 (k + 1) m (m + 1)) (hk : k + 1 ≤ m) (hm : m < d1.size) : Rot d (swp d1 (k + 1) k) k m (m + 1) := fun x => by
  by_cases h1 : x = k + 1
  · subst h1
    rw [swp_left d1 _ _ (by omega) (by omega), h, if_neg (by omega), if_neg (by omega), if_neg (by omega), if_pos (by omega)]
    congr 1; omega
  · by_cases h2 : x = k
    · subst h2
      rw [swp_right d1 _ _ (by omega), h, if_pos (by omega), if_pos (by omega)]
      congr 1; omega
    · rw [swp_other d1 _ _ _ h1 h2, h, if_neg (by omega)]
      by_cases h3 : k + 1 + (m + 1 - m) ≤ x ∧ x < m + 1
      · rw [if_pos h3, if_neg (by omega), if_pos (by omega)]
      · rw [if_neg h3, if_neg (by omega), if_neg (by omega)]

omit [Inhabited α] in
theorem lt_asym (hS : SWO lt) {x y : α} (h : lt x y = true) : lt y x = false := by
  cases hh : lt y x with
  | false => rfl
  | true => have := hS.trans x y x h hh; rw [hS.irrefl] at this; cases this
/-- Two sorted parts with all of the first at most all of the second. -/
theorem sorted_glue {a c b : Nat} (h1 : SortedIn lt a c d) (h2 : SortedIn lt c b d) (hx : ∀ x y, a ≤ x → x < c → c ≤ y → y < b → lt d[y]! d[x]! = false) : SortedIn lt a b d := fun i j hi hij hj => by
  by_cases hc : j < c
  · exact h1 i j hi hij hc
  · by_cases hd : c ≤ i
    · exact h2 i j hd hij hj
    · exact hx i j hi (by omega) (by omega) hj
theorem sorted_part {a b a' b' : Nat} (h : SortedIn lt a b d) (ha : a ≤ a') (hb : b' ≤ b) : SortedIn lt a' b' d := fun i j hi hij hj => h i j (by omega) hij (by omega)
theorem sorted_same {a b : Nat} (h : SortedIn lt a b d) (he : ∀ i, a ≤ i → i < b → d'[i]! = d[i]!) : SortedIn lt a b d' := fun i j hi hij hj => by
  rw [he i hi (by omega), he j (by omega) hj]; exact h i j hi hij hj
theorem sorted_none {a b : Nat} (h : b ≤ a + 1) : SortedIn lt a b d := fun i j hi hij hj => by omega
theorem perm_out {a b : Nat} (h : PermIn a b d d') {i : Nat} (hi : i < a ∨ b ≤ i) : d'[i]! = d[i]! := h.2.1 i hi
/-- What two sorted parts are behind a turn of their midst. -/
structure Halves (lt : α → α → Bool) (d1 : Array α) (a s mid e b : Nat) : Prop where
  s1 : SortedIn lt a s d1
  s2 : SortedIn lt s mid d1
  s3 : SortedIn lt mid e d1
  s4 : SortedIn lt e b d1
  cross : ∀ x y, a ≤ x → x < mid → mid ≤ y → y < b → lt d1[y]! d1[x]! = false
theorem halves (hS : SWO lt) {a m b s e mid : Nat} (hL : SortedIn lt a m d) (hR : SortedIn lt m b d) (h1 : a ≤ s) (h2 : s ≤ m) (h3 : m ≤ e) (h4 : e ≤ b) (hmid : mid = s + (e - m)) (hr : Rot d d1 s m e)
    (c1 : s = a ∨ e = b ∨ lt d[e]! d[s - 1]! = false) (c2 : s = m ∨ e = m ∨ lt d[s]! d[e - 1]! = false) : Halves lt d1 a s mid e b := by
  have v1 : ∀ x, x < s → d1[x]! = d[x]! := fun x hx => by rw [hr x, if_neg (by omega), if_neg (by omega)]
  have v2 : ∀ x, s ≤ x → x < mid → d1[x]! = d[x + (m - s)]! := fun x hx hy => by rw [hr x, if_pos (by omega)]
  have v3 : ∀ x, mid ≤ x → x < e → d1[x]! = d[x - (e - m)]! := fun x hx hy => by rw [hr x, if_neg (by omega), if_pos (by omega)]
  have v4 : ∀ x, e ≤ x → d1[x]! = d[x]! := fun x hx => by rw [hr x, if_neg (by omega), if_neg (by omega)]
  -- at most, from one place to a later one of the same part
  have le : ∀ x y, a ≤ x → x ≤ y → y < m → lt d[y]! d[x]! = false := fun x y hx hxy hy => by
    rcases Nat.lt_or_ge x y with h | h
    · exact hL x y hx h hy
    · obtain rfl : x = y := by omega
      exact hS.irrefl _
  have le2 : ∀ x y, m ≤ x → x ≤ y → y < b → lt d[y]! d[x]! = false := fun x y hx hxy hy => by
    rcases Nat.lt_or_ge x y with h | h
    · exact hR x y hx h hy
    · obtain rfl : x = y := by omega
      exact hS.irrefl _
  have tr : ∀ x y z : α, lt y x = false → lt z y = false → lt z x = false := fun x y z hxy hyz => hS.ntrans z y x hyz hxy
  refine ⟨fun i j hi hij hj => ?_, fun i j hi hij hj => ?_, fun i j hi hij hj => ?_, fun i j hi hij hj => ?_, fun x y hx hxm hym hy => ?_⟩
  · rw [v1 i (by omega), v1 j hj]; exact hL i j hi hij (by omega)
  · rw [v2 i hi (by omega), v2 j (by omega) hj]; exact hR _ _ (by omega) (by omega) (by omega)
  · rw [v3 i hi (by omega), v3 j (by omega) hj]; exact hL _ _ (by omega) (by omega) (by omega)
  · rw [v4 i hi, v4 j (by omega)]; exact hR i j (by omega) hij hj
  · rcases Nat.lt_or_ge x s with hxs | hxs
    · rw [v1 x hxs]
      rcases Nat.lt_or_ge y e with hye | hye
      · rw [v3 y hym hye]; exact le _ _ hx (by omega) (by omega)
      · rw [v4 y hye]
        rcases c1 with c1 | c1 | c1
        · omega
        · omega
        · exact tr _ _ _ (tr _ _ _ (le x (s - 1) hx (by omega) (by omega)) c1) (le2 e y (by omega) hye hy)
    · rw [v2 x hxs hxm]
      rcases Nat.lt_or_ge y e with hye | hye
      · rw [v3 y hym hye]
        rcases c2 with c2 | c2 | c2
        · omega
        · omega
        · exact tr _ _ _ (tr _ _ _ (le2 (x + (m - s)) (e - 1) (by omega) (by omega) (by omega)) c2) (le s (y - (e - m)) (by omega) (by omega) (by omega))
      · rw [v4 y hye]; exact le2 _ _ (by omega) (by omega) hy
/-- The one of two halves, sorted; then the other one. -/
theorem Halves.first {a s mid e b : Nat} (h : Halves lt d1 a s mid e b) (hs : mid ≤ d1.size) (hm : mid ≤ e) (hp : PermIn a mid d1 d') (hso : SortedIn lt a mid d') : SortedIn lt a mid d' ∧ SortedIn lt mid e d' ∧ SortedIn lt e b d' ∧ ∀ x y, a ≤ x → x < mid → mid ≤ y → y < b → lt d'[y]! d'[x]! = false :=
  ⟨hso, sorted_same h.s3 fun i hi _ => perm_out hp (.inr hi), sorted_same h.s4 fun i hi _ => perm_out hp (.inr (Nat.le_trans hm hi)), fun x y hx hxm hym hy => by
    rw [perm_out hp (.inr hym)]
    exact permIn_all d1 d' a mid (fun u => lt d1[y]! u = false) hs hp (fun i hi hi2 => h.cross i y hi hi2 hym hy) x hx hxm⟩
theorem second {a mid b : Nat} (h1 : SortedIn lt a mid d1) (hx : ∀ x y, a ≤ x → x < mid → mid ≤ y → y < b → lt d1[y]! d1[x]! = false) (hs : b ≤ d1.size) (hp : PermIn mid b d1 d') (hso : SortedIn lt mid b d') : SortedIn lt a b d' :=
  sorted_glue (sorted_same h1 fun i _ hi => perm_out hp (.inl hi)) hso fun x y hxa hxm hym hy => by
    rw [perm_out hp (.inl hxm)]
    exact permIn_all d1 d' mid b (fun u => lt u d1[x]! = false) hs hp (fun i hi hi2 => hx x i hxa hxm hi hi2) y hym hy
theorem Halves.firstNo {a s mid e b : Nat} (h : Halves lt d1 a s mid e b) (hn : ¬ (a < s ∧ s < mid)) (hs : s ≤ mid) : SortedIn lt a mid d1 := by
  rcases Nat.lt_or_ge a s with h1 | h1
  · have : mid = s := by omega
    rw [this]; exact h.s1
  · exact sorted_part h.s2 (by omega) (Nat.le_refl _)
theorem secondNo {mid e b : Nat} (h3 : SortedIn lt mid e d1) (h4 : SortedIn lt e b d1) (hn : ¬ (mid < e ∧ e < b)) (h5 : mid ≤ e) : SortedIn lt mid b d1 := by
  rcases Nat.lt_or_ge mid e with h1 | h1
  · exact sorted_part h3 (Nat.le_refl _) (by omega)
  · exact sorted_part h4 (by omega) (Nat.le_refl _)
/-- Row by row of bs places, all of n places. -/
def BlkS (lt : α → α → Bool) (bs n : Nat) (t : Nat) (d : Array α) : Prop := SortedIn lt (t * bs) (min (t * bs + bs) n) d
theorem permIn_in {a b a' b' : Nat} (h : PermIn a b d d') (ha : a' ≤ a) (hb : b ≤ b') (hs : b' ≤ d.size) : PermIn a' b' d d' := permIn_mono d d' a b a' b' ha hb hs h
theorem BlkS.other {bs n t a b : Nat} (h : BlkS lt bs n t d) (hp : PermIn a b d d') (ho : t * bs + bs ≤ a ∨ b ≤ t * bs) : BlkS lt bs n t d' := sorted_same h fun i hi hi2 => perm_out hp (by have := Nat.min_le_left (t * bs + bs) n; omega)
theorem BlkS.past {bs n t : Nat} (h : n ≤ t * bs) : BlkS lt bs n t d := fun i j hi hij hj => by have := Nat.min_le_right (t * bs + bs) n; omega
theorem mul_before {bs t u : Nat} (h : t < u) : t * bs + bs ≤ u * bs := by have := Nat.mul_le_mul_right bs (show t + 1 ≤ u from h); rwa [Nat.add_mul, Nat.one_mul] at this
end
section
variable {α : Type} [Inhabited α] {lt : α → α → Bool} {d : Array α}
/-- Sorted but for one place that is on its way down. -/
def InsS (lt : α → α → Bool) (a i j : Nat) (d : Array α) : Prop := ∀ x y, a ≤ x → x < y → y ≤ i → y ≠ j → lt d[y]! d[x]! = false
theorem InsS.start {a i : Nat} (h : SortedIn lt a i d) : InsS lt a i i d := fun x y hx hxy hy hne => h x y hx hxy (by omega)
theorem InsS.step (hS : SWO lt) {a i j : Nat} (h : InsS lt a i (j + 1) d) (ha : a ≤ j) (hj : j + 1 ≤ i) (hi : i < d.size) (hl : lt d[j + 1]! d[j]! = true) : InsS lt a i j (swp d (j + 1) j) := fun x y hx hxy hy hne => by
  have v1 : (swp d (j + 1) j)[j + 1]! = d[j]! := swp_left d _ _ (by omega) (by omega)
  have v2 : (swp d (j + 1) j)[j]! = d[j + 1]! := swp_right d _ _ (by omega)
  have v3 : ∀ k, k ≠ j + 1 → k ≠ j → (swp d (j + 1) j)[k]! = d[k]! := fun k h1 h2 => swp_other d _ _ _ h1 h2
  by_cases h1 : y = j + 1
  · subst h1
    rw [v1]
    by_cases h2 : x = j
    · subst h2; rw [v2]; exact lt_asym hS hl
    · rw [v3 x (by omega) h2]; exact h x j hx (by omega) (by omega) (by omega)
  · rw [v3 y h1 hne]
    by_cases h2 : x = j + 1
    · subst h2; rw [v1]; exact h j y ha (by omega) hy (by omega)
    · by_cases h3 : x = j
      · subst h3; rw [v2]; exact h (x + 1) y (by omega) (by omega) hy (by omega)
      · rw [v3 x h2 h3]; exact h x y hx hxy hy (by omega)
theorem InsS.low {a i : Nat} (h : InsS lt a i a d) : SortedIn lt a (i + 1) d := fun x y hx hxy hy => h x y hx hxy (by omega) (by omega)
theorem InsS.stop (hS : SWO lt) {a i j : Nat} (h : InsS lt a i (j + 1) d) (ha : a ≤ j) (hj : j + 1 ≤ i) (hl : lt d[j + 1]! d[j]! = false) : SortedIn lt a (i + 1) d := fun x y hx hxy hy => by
  by_cases h1 : y = j + 1
  · subst h1
    rcases Nat.lt_or_ge x j with h2 | h2
    · exact hS.ntrans _ _ _ hl (h x j hx h2 (by omega) (by omega))
    · obtain rfl : x = j := by omega
      exact hl
  · exact h x y hx hxy (by omega) h1
/-- A search by halves: those that are ahead are asked for, those behind are not. -/
def HalS (p : Nat → Bool) (lo hi i j : Nat) : Prop := lo ≤ i ∧ i ≤ j ∧ j ≤ hi ∧ (i = lo ∨ p (i - 1) = true) ∧ (j = hi ∨ p j = false)
theorem HalS.start (p : Nat → Bool) {lo hi : Nat} (h : lo ≤ hi) : HalS p lo hi lo hi := ⟨Nat.le_refl _, h, Nat.le_refl _, .inl rfl, .inl rfl⟩
theorem HalS.yes {p : Nat → Bool} {lo hi i j h : Nat} (k : HalS p lo hi i j) (h1 : i ≤ h) (h2 : h < j) (hp : p h = true) : HalS p lo hi (h + 1) j := ⟨by have := k.1; omega, by omega, k.2.2.1, .inr hp, k.2.2.2.2⟩
theorem HalS.no {p : Nat → Bool} {lo hi i j h : Nat} (k : HalS p lo hi i j) (h1 : i ≤ h) (h2 : h < j) (hp : p h = false) : HalS p lo hi i h := ⟨k.1, h1, by have := k.2.2.1; omega, k.2.2.2.1, .inr hp⟩
end
section
variable {α : Type} [Inhabited α] {lt : α → α → Bool} {d d1 d2 : Array α}
theorem merge_up (hS : SWO lt) {a b i : Nat} (hR : SortedIn lt (a + 1) b d) (hi : HalS (fun h => lt d[h]! d[a]!) (a + 1) b i i) (hr : Rot d d1 a (a + 1) i) : SortedIn lt a b d1 := by
  obtain ⟨h1, _, h2, h3, h4⟩ := hi
  have H := halves hS (a := a) (m := a + 1) (b := b) (s := a) (e := i) (mid := a + (i - (a + 1))) (sorted_none (Nat.le_refl _)) hR (Nat.le_refl _) (by omega) h1 h2 rfl hr (.inl rfl)
    (by rcases h3 with h | h
        · exact .inr (.inl h)
        · exact .inr (.inr (lt_asym hS h)))
  have v1 : d1[i - 1]! = d[a]! := by rw [hr (i - 1), if_neg (by omega), if_pos (by omega)]; congr 1; omega
  have v2 : ∀ y, i ≤ y → d1[y]! = d[y]! := fun y hy => by rw [hr y, if_neg (by omega), if_neg (by omega)]
  refine sorted_glue H.s2 (sorted_glue H.s3 H.s4 fun x y hx hxm hym hy => ?_) H.cross
  obtain rfl : x = i - 1 := by omega
  rw [v1, v2 y hym]
  rcases h4 with h4 | h4
  · omega
  · rcases Nat.lt_or_ge i y with h5 | h5
    · exact hS.ntrans _ _ _ (hR i y (by omega) h5 hy) h4
    · obtain rfl : i = y := by omega
      exact h4
theorem merge_down (hS : SWO lt) {a m i : Nat} (hL : SortedIn lt a m d) (hi : HalS (fun h => !lt d[m]! d[h]!) a m i i) (hr : Rot d d1 i m (m + 1)) : SortedIn lt a (m + 1) d1 := by
  obtain ⟨h1, _, h2, h3, h4⟩ := hi
  have H := halves hS (a := a) (m := m) (b := m + 1) (s := i) (e := m + 1) (mid := i + 1) hL (sorted_none (Nat.le_refl _)) h1 h2 (by omega) (Nat.le_refl _) (by omega) hr (.inr (.inl rfl))
    (by rcases h4 with h | h
        · exact .inl h
        · refine .inr (.inr ?_)
          simp only [Bool.not_eq_false'] at h
          exact lt_asym hS h)
  have v1 : d1[i]! = d[m]! := by rw [hr i, if_pos (by omega)]; congr 1; omega
  have v2 : ∀ x, x < i → d1[x]! = d[x]! := fun x hx => by rw [hr x, if_neg (by omega), if_neg (by omega)]
  refine sorted_glue (sorted_glue H.s1 H.s2 fun x y hx hxm hym hy => ?_) H.s3 H.cross
  obtain rfl : y = i := by omega
  rw [v1, v2 x hxm]
  rcases h3 with h3 | h3
  · omega
  · simp only [Bool.not_eq_true'] at h3
    rcases Nat.lt_or_ge x (y - 1) with h5 | h5
    · exact hS.ntrans _ _ _ h3 (hL x (y - 1) hx h5 (by omega))
    · obtain rfl : x = y - 1 := by omega
      exact h3
/-- Where the search for the turn may begin and end. -/
def SymS (a m b mid s0 r0 : Nat) : Prop := a ≤ s0 ∧ s0 ≤ r0 ∧ r0 ≤ m ∧ r0 ≤ mid ∧ mid + m ≤ s0 + b ∧ (s0 = a ∨ s0 + b = mid + m) ∧ (r0 = m ∨ r0 = mid)
theorem SymS.a {a m b mid : Nat} (h1 : a < m) (h2 : m < b) (hm : mid = (a + b) / 2) (h : mid < m) : SymS a m b mid (mid + m - b) mid := by unfold SymS; omega
theorem SymS.b {a m b mid : Nat} (h1 : a < m) (h2 : m < b) (hm : mid = (a + b) / 2) (h : m ≤ mid) : SymS a m b mid a m := by unfold SymS; omega
theorem sym_halves (hS : SWO lt) {a m b mid s0 r0 s e : Nat} (hL : SortedIn lt a m d) (hR : SortedIn lt m b d) (hy : SymS a m b mid s0 r0) (hi : HalS (fun c => !lt d[mid + m - 1 - c]! d[c]!) s0 r0 s s) (h1 : a < m) (h2 : m < b) (he : e = mid + m - s) (hr : Rot d d1 s m e) :
    Halves lt d1 a s mid e b := by
  obtain ⟨y1, y2, y3, y4, y5, y6, y7⟩ := hy
  obtain ⟨i1, _, i2, i3, i4⟩ := hi
  refine halves hS hL hR (by omega) (by omega) (by omega) (by omega) (by omega) hr ?_ ?_
  · rcases i3 with h | h
    · omega
    · simp only [Bool.not_eq_true'] at h
      by_cases hs : s = s0
      · omega
      · rw [show mid + m - 1 - (s - 1) = e by omega] at h
        exact .inr (.inr h)
  · rcases i4 with h | h
    · omega
    · simp only [Bool.not_eq_false'] at h
      rw [show mid + m - 1 - s = e - 1 by omega] at h
      exact .inr (.inr (lt_asym hS h))
theorem SymS.in_ {a m b mid s0 r0 s : Nat} {p : Nat → Bool} (hy : SymS a m b mid s0 r0) (hi : HalS p s0 r0 s s) : a ≤ s ∧ s ≤ m ∧ s ≤ mid ∧ mid + m ≤ s + b := by
  obtain ⟨y1, y2, y3, y4, y5, y6, y7⟩ := hy
  obtain ⟨i1, _, i2, i3, i4⟩ := hi
  omega
/-- Behind the first half. -/
structure Aft (lt : α → α → Bool) (d : Array α) (a mid e b : Nat) : Prop where
  s1 : SortedIn lt a mid d
  s3 : SortedIn lt mid e d
  s4 : SortedIn lt e b d
  cross : ∀ x y, a ≤ x → x < mid → mid ≤ y → y < b → lt d[y]! d[x]! = false
theorem Halves.aft {a s mid e b : Nat} (h : Halves lt d1 a s mid e b) (hs : mid ≤ d1.size) (hm : mid ≤ e) (hp : PermIn a mid d1 d2) (hso : SortedIn lt a mid d2) : Aft lt d2 a mid e b := by
  obtain ⟨h1, h2, h3, h4⟩ := h.first hs hm hp hso
  exact ⟨h1, h2, h3, h4⟩
theorem Halves.aftNo {a s mid e b : Nat} (h : Halves lt d1 a s mid e b) (hn : ¬ (a < s ∧ s < mid)) (hs : s ≤ mid) : Aft lt d1 a mid e b := ⟨h.firstNo hn hs, h.s3, h.s4, h.cross⟩
theorem Aft.fin {a mid e b : Nat} (h : Aft lt d1 a mid e b) (hs : b ≤ d1.size) (hp : PermIn mid b d1 d2) (hso : SortedIn lt mid b d2) : SortedIn lt a b d2 := second h.s1 h.cross hs hp hso
theorem Aft.finNo {a mid e b : Nat} (h : Aft lt d1 a mid e b) (hn : ¬ (mid < e ∧ e < b)) (h5 : mid ≤ e) : SortedIn lt a b d1 := sorted_glue h.s1 (secondNo h.s3 h.s4 hn h5) h.cross
end
section
variable {α : Type} [Inhabited α] {lt : α → α → Bool} {d d1 : Array α} {bs n u a b : Nat}
theorem blk1_step (h : ∀ t, t < u → BlkS lt bs n t d) (ha : a = u * bs) (hb : b = a + bs) (hn : b ≤ n) (hp : PermIn a b d d1) (hs : SortedIn lt a b d1) : ∀ t, t < u + 1 → BlkS lt bs n t d1 := fun t ht => by
  rcases Nat.lt_or_ge t u with h1 | h1
  · exact (h t h1).other hp (.inl (by rw [ha]; exact mul_before h1))
  · obtain rfl : t = u := by omega
    unfold BlkS
    rw [← ha, Nat.min_eq_left (by omega), ← hb]
    exact hs
theorem blk1_end (h : ∀ t, t < u → BlkS lt bs n t d) (ha : a = u * bs) (hn : n < a + bs) (hp : PermIn a n d d1) (hs : SortedIn lt a n d1) : ∀ t, BlkS lt bs n t d1 := fun t => by
  rcases Nat.lt_trichotomy t u with h1 | h1 | h1
  · exact (h t h1).other hp (.inl (by rw [ha]; exact mul_before h1))
  · subst h1
    unfold BlkS
    rw [← ha, Nat.min_eq_right (by omega)]
    exact hs
  · exact BlkS.past (by have := mul_before (bs := bs) h1; omega)
theorem two_mul_ (u bs : Nat) : 2 * u * bs = u * (2 * bs) := by rw [Nat.mul_comm 2 u, Nat.mul_assoc]
theorem blk2_l (h : ∀ t, 2 * u ≤ t → BlkS lt bs n t d) (ha : a = u * (2 * bs)) (hn : a + bs ≤ n) : SortedIn lt a (a + bs) d := by
  have := h (2 * u) (Nat.le_refl _)
  unfold BlkS at this
  rw [two_mul_, ← ha, Nat.min_eq_left hn] at this
  exact this
theorem blk2_r (h : ∀ t, 2 * u ≤ t → BlkS lt bs n t d) (ha : a = u * (2 * bs)) (hb : b = min (a + 2 * bs) n) : SortedIn lt (a + bs) b d := by
  have := h (2 * u + 1) (Nat.le_succ _)
  unfold BlkS at this
  rw [Nat.add_mul, two_mul_, ← ha, Nat.one_mul, show a + bs + bs = a + 2 * bs by omega, ← hb] at this
  exact this
theorem blk2_keep (h : ∀ t, 2 * u ≤ t → BlkS lt bs n t d) (ha : a = u * (2 * bs)) (hb : b = a + 2 * bs) (hp : PermIn a b d d1) : ∀ t, 2 * (u + 1) ≤ t → BlkS lt bs n t d1 := fun t ht => by
  refine (h t (by omega)).other hp (.inr ?_)
  have := Nat.mul_le_mul_right bs ht
  rw [two_mul_, Nat.add_mul, Nat.one_mul, ← ha] at this
  omega
theorem blk2_no (h : ∀ t, t < u → BlkS lt (2 * bs) n t d) (h2 : ∀ t, 2 * u ≤ t → BlkS lt bs n t d) (ha : a = u * (2 * bs)) (hn : n ≤ a + bs) : ∀ t, BlkS lt (2 * bs) n t d := fun t => by
  rcases Nat.lt_trichotomy t u with h1 | h1 | h1
  · exact h t h1
  · subst h1
    have := h2 (2 * t) (Nat.le_refl _)
    unfold BlkS at this ⊢
    rw [two_mul_, ← ha, Nat.min_eq_right hn] at this
    rw [← ha, Nat.min_eq_right (by omega)]
    exact this
  · exact BlkS.past (by have := mul_before (bs := 2 * bs) h1; omega)
theorem blk_all (h : ∀ t, BlkS lt bs n t d) (hb : n ≤ bs) : SortedIn lt 0 n d := by
  have := h 0
  unfold BlkS at this
  rwa [Nat.zero_mul, Nat.zero_add, Nat.min_eq_right hb] at this
end
end Go.Proofs.Ytbimjacceocglaa
